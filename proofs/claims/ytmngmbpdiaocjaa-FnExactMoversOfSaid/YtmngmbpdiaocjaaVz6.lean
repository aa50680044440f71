/- Pm9, Pl9, Rp8, Vg8, one after the other (what the laws reach of them). No conditions. -/
import Derived.Test.YtmngmbpdiaocjaaVz5
namespace Go.Proofs.Ytmngmbpdiaocjaa
open Go.Joins Go.ChangeShapes Go.WideShapes Go.ChangeAt Go.RowKit Go.Deep
set_option linter.unusedVariables false
set_option maxHeartbeats 8000000
set_option maxRecDepth 100000
/- Pm9 -/
theorem MkP.low {p s c l : Int} {st sk re fe ag : Bool} {n1 : Nat} {q : Ps} {h1 d1 h2 d2 : Nat} {LV : Option (Res × R7)} {H0 H1 : Nat} {cs : List Value} {u : World} (h : MkP p s c l st sk re fe ag n1 q h1 d1 h2 d2 LV H1 cs u) (hh : H0 ≤ H1) : MkP p s c l st sk re fe ag n1 q h1 d1 h2 d2 LV H0 cs u := by
 cases LV with
 | none => trivial
 | some mr =>
  obtain ⟨s1, s2, sc1, sc2, g1, k1, g2, k2, he, ho, r⟩ := h
  exact ⟨s1, s2, sc1, sc2, g1, k1, g2, k2, he, ho.lower hh, r⟩
theorem MkP.but9 {p s c l : Int} {st sk re fe ag : Bool} {n1 : Nat} {q : Ps} {h1 d1 h2 d2 : Nat} {LV : Option (Res × R7)} {H1 z : Nat} {cs : List Value} {u v : World} (h : MkP p s c l st sk re fe ag n1 q h1 d1 h2 d2 LV H1 cs u) (k : But z u v) (hz : z < H1) : MkP p s c l st sk re fe ag n1 q h1 d1 h2 d2 LV H1 cs v := by
 cases LV with
 | none => trivial
 | some mr =>
  obtain ⟨s1, s2, sc1, sc2, g1, k1, g2, k2, he, ho, l1, l2, r⟩ := h
  have n1' := ho.o1.new
  have n2' := ho.o2.new
  exact ⟨s1, s2, sc1, sc2, g1, k1, g2, k2, he, ho.but k (by omega) (by omega), Nat.lt_of_lt_of_le l1 k.size, Nat.lt_of_lt_of_le l2 k.size, r⟩
theorem rg18 {u : World} {z : Nat} {v0 v1 v2 v3 v4 v5 v6 v7 v8 v9 v10 v11 v12 v13 v14 v15 v16 : Value} (h : G17 u z v0 v1 v2 v3 v4 v5 v6 v7 v8 v9 v10 v11 v12 v13 v14 v15 v16) : u.rangeAt z 0 [v0, v1, v2, v3, v4, v5, v6, v7, v8] ∧ u.rangeAt z 13 [v13, v14, v15] := by
 constructor
 ·intro j v hj
  match j, hj with
  | 0, hj => cases hj; exact h.c0
  | 1, hj => cases hj; exact h.c1
  | 2, hj => cases hj; exact h.c2
  | 3, hj => cases hj; exact h.c3
  | 4, hj => cases hj; exact h.c4
  | 5, hj => cases hj; exact h.c5
  | 6, hj => cases hj; exact h.c6
  | 7, hj => cases hj; exact h.c7
  | 8, hj => cases hj; exact h.c8
  | n + 9, hj => simp at hj
 ·intro j v hj
  match j, hj with
  | 0, hj => cases hj; exact h.c13
  | 1, hj => cases hj; exact h.c14
  | 2, hj => cases hj; exact h.c15
  | n + 3, hj => simp at hj
def cdS (p s c l : Int) (st sk re fe ag : Bool) (q : Ps) (move : Int) : Int := lgC c l p q.pl fe q.xs (mvCd true p q.pl st sk re q.xs q.ys move) (mvV true p q.pl st sk re q.xs q.ys move)
def lvS (p s c l : Int) (st sk re fe ag : Bool) (q : Ps) (move : Int) : Option (Res × R7) := (lgV c l p q.pl fe q.xs (mvV true p q.pl st sk re q.xs q.ys move)).map fun m => (m, r7V c l p q.pl ag q.ys move m)
def PmP (w : World) (pb : Nat) (p s c l : Int) (st sk re fe ag : Bool) (n1 b1 e1 b2 e2 : Nat) (sp : Int) (sx sy : List Int) (ms : List Int) (L : List (T21 × Q21)) (q : Ps) (R : List (Nat × List Int)) (move : Int) (LV : Option (Res × R7)) (cd : Int) (u : World) (e : Ending) (u' : World) : Prop :=
 match LV with
 | none => e = .returned (.int .i64 cd) ∧ Below u.heap.size u u'
 | some mr => e = .returned (.int .i64 0) ∧ ∃ v1' v2' x g1 c1 g2 c2 R', PlK w pb p s c l st sk re fe ag n1 b1 e1 b2 e2 sp sx sy v1' v2' (ms ++ [move]) (L ++ [x]) g1 c1 g2 c2 mr.2.ps (-1) R' u' ∧ x.1 = ⟨q, mr.1, mr.2⟩
theorem cells21_news (u : World) (T : TypeId) (cs : List Value) (H : Nat) (hH : u.heap.size = H) : ∀ j v, cs[j]? = some v → (u.alloc (.cells cs.toArray T)).cell? ((⟨H, 0, none⟩ : Addr).add j) = some v := by
 subst hH
 intro j v hj
 have e : ((⟨u.heap.size, 0, none⟩ : Addr).add j) = ⟨u.heap.size, 0 + j, none⟩ := by
  by_cases h : j = 0 <;> simp [Addr.add, h]
 rw [e, Nat.zero_add, World.cell?_alloc_new]
 simpa using hj
theorem rg_but {u v : World} {z b : Nat} {cs : List Value} (h : u.rangeAt z 0 cs) (hz : z < u.heap.size) (hb : z ≠ b) (k : But b u v) : v.rangeAt z 0 cs := fun j x hx => (k.cell (c := z) (o := 0 + j) hz hb).trans (h j x hx)
theorem rg_below {u v : World} {z : Nat} {cs : List Value} (h : u.rangeAt z 0 cs) (hz : z < u.heap.size) (k : Below u.heap.size u v) : v.rangeAt z 0 cs := fun j x hx => (k.cell (p := ⟨z, 0 + j, none⟩) hz).trans (h j x hx)
theorem rg_grown {u v : World} {z : Nat} {cs : List Value} {row : Option Nat} (h : u.rangeAt z 0 cs) (hz : z < u.heap.size) (hg : u.grownBy v row) (hr : ∀ i, row = some i → i ≠ z) : v.rangeAt z 0 cs := fun j x hx => (World.cell?_of_block (a := ⟨z, 0 + j, none⟩) (hg.block z hz (fun e => hr z e.symm rfl))).trans (h j x hx)
theorem pmove_any (w : World) (pb : Nat) (p s c l : Int) (st sk re fe ag : Bool) (n1 b1 e1 b2 e2 : Nat) (sp : Int) (sx sy : List Int) (v1 v2 : Value) (ms : List Int) (L : List (T21 × Q21)) (h1 d1 h2 d2 : Nat) (q : Ps) (R : List (Nat × List Int)) (move : Int) (u : World) (h : PlK w pb p s c l st sk re fe ag n1 b1 e1 b2 e2 sp sx sy v1 v2 ms L h1 d1 h2 d2 q (-1) R u) (hok : OkQ p s c l st ag n1 q) (hms : ms.length < 120) (hLm : L.length = ms.length) :
  Calls Try.prog 51 #[.pointer (some ⟨pb, 0, none⟩), .int .i64 move] u (PmP w pb p s c l st sk re fe ag n1 b1 e1 b2 e2 sp sx sy ms L q R move (lvS p s c l st sk re fe ag q move) (cdS p s c l st sk re fe ag q move) u) := by
 obtain ⟨ma, mc, hv1⟩ := slice_own h.mo
 subst hv1
 have hd120 : ((ms.length : Int) == 120) = false := by simp; omega
 have HMk0 : ∀ u', Below u.heap.size u u' → Calls Try.prog 62 #[.agg #[.int .i64 p, .int .i64 s, .bool st, .bool sk, .bool re, .bool fe, .bool ag, .int .i64 c, .int .i64 l], .agg #[.slice (some ⟨h1, 0, none⟩) n1 d1, .slice (some ⟨h2, 0, none⟩) 2 d2, .int .i64 q.pl], .int .i64 move] u' (MkG p s c l st sk re fe ag n1 q h1 d1 h2 d2 (lvS p s c l st sk re fe ag q move) (cdS p s c l st sk re fe ag q move) u') := fun u' hu => (makeL_any p s c l st sk re fe ag (some ⟨h1, 0, none⟩) (some ⟨h2, 0, none⟩) n1 d1 2 d2 q.pl q.xs q.ys move u' (h.nr.below hu) h.k3 true hok.ok).mono (fun e w' hq => mkG_of hq)
 have H := Lib.hid h
 have HRg := Lib.hid (TGm.rg h.g)
 have c12 := h.g.c12
 have HMk1 := Lib.hid HMk0
 clear h HMk0
 have HCd0 : (lvS p s c l st sk re fe ag q move = none → (cdS p s c l st sk re fe ag q move == 0) = false) ∧ ((lvS p s c l st sk re fe ag q move).isSome = true → cdS p s c l st sk re fe ag q move = 0) := by
  unfold lvS cdS
  cases hl : lgV c l p q.pl fe q.xs (mvV true p q.pl st sk re q.xs q.ys move) with
  | none => exact ⟨fun _ => lg_none hok.ok hok.l1 hl, fun e => by cases e⟩
  | some m => exact ⟨(fun e => by cases e), fun _ => (lg_some hl).2⟩
 have HLV0 : ∀ mr, lvS p s c l st sk re fe ag q move = some mr → mr.2.nx = (if ag && decide (mr.1.last = -1) then q.pl else 1 - q.pl) ∧ mr.2.xs.length = n1 ∧ mr.2.ys.length = 2 := by
  unfold lvS
  intro mr hmr
  cases hl : lgV c l p q.pl fe q.xs (mvV true p q.pl st sk re q.xs q.ys move) with
  | none => rw [hl] at hmr; cases hmr
  | some m =>
   rw [hl] at hmr
   cases hmr
   have h3 := stp_ok (move := move) (r := r7V c l p q.pl ag q.ys move m) hok (by unfold stp; rw [hl]; rfl)
   exact ⟨rfl, h3.l1, h3.l2⟩
 have HLl : Hid (L.length < 120) := Lib.hid (by omega)
 clear hLm
 have HCd := Lib.hid HCd0
 have HLV := Lib.hid HLV0
 have hpl : q.pl = 0 ∨ q.pl = 1 := by obtain ⟨-, -, -, h4, -⟩ := okP_parts hok.ok; omega
 have Hpl := Lib.hid hpl
 obtain ⟨i1, hi1, hy0, hy1, hy2⟩ := info_parts infoN
 obtain ⟨i2, hi2, hx0, hx1, hx2⟩ := info_parts infoM
 clear HCd0 HLV0 hpl hok
 generalize cdS p s c l st sk re fe ag q move = cd at *
 generalize lvS p s c l st sk re fe ag q move = LV at *
 go_enter Try.func51, Try.ntmps51
 go_wp2_with (refine wpList_load_mid rfl 34 _ rfl pb 0 rfl _ _ HRg.out Try.underlying34 rfl (by kernel_rfl) ?_)
 refine (hasR_no _ _ _ _ _ _ _ _ _ _ _ _ _ _ _ _ _ _ _ _ _ _ _ _ _ _ _ _ rfl).mono ?_
 rintro e u0 ⟨rfl, hb⟩
 have H := Lib.hid (H.out.below hb)
 have c12 := H.out.g.c12
 have HMk2 := Lib.hid (fun u' (hu : OnW u0 u') => HMk1.out u' (Below.trans hb (Below.mono hu hb.size)))
 have hbu := Lib.hid hb
 clear hb HRg HMk1
 go_upto_region 5 with fail
 go_cut [5, 6] (fun s5 s6 wx => ∃ (z : Nat) (cs : List Value), s5 = .pointer (some ⟨z, 0, none⟩) ∧ s6 = .int .i64 cd ∧ u0.heap.size ≤ z ∧ z < wx.heap.size ∧ wx.rangeAt z 0 cs ∧ cs.length = 21 ∧ cs.toArray.all (·.oneCell') = true ∧ MkP p s c l st sk re fe ag n1 q h1 d1 h2 d2 LV u0.heap.size cs wx ∧ OnW u0 wx)
 case first =>
  have HMk := HMk2
  have HT : Hid (∀ u', OnW u0 u' → u'.rangeAt pb 0 [.int .i64 p, .int .i64 s, .bool st, .bool sk, .bool re, .bool fe, .bool ag, .int .i64 c, .int .i64 l] ∧ u'.rangeAt pb 13 [.slice (some ⟨h1, 0, none⟩) n1 d1, .slice (some ⟨h2, 0, none⟩) 2 d2, .int .i64 q.pl]) := Lib.hid (fun u' hu => rg18 (H.out.g.below hu))
  refine wp_region_held_drew (S := (fun u => u.rangeAt pb 0 [.int .i64 p, .int .i64 s, .bool st, .bool sk, .bool re, .bool fe, .bool ag, .int .i64 c, .int .i64 l] ∧ u.rangeAt pb 13 [.slice (some ⟨h1, 0, none⟩) n1 d1, .slice (some ⟨h2, 0, none⟩) 2 d2, .int .i64 q.pl])) (by kernel_rfl) (HT.out _ (OnW.drew (show OnW u0 u0 from Below.refl _ _))) (fun hHeld => ?_)
  have HB := Lib.hid (OnW.drew (show OnW u0 u0 from Below.refl _ _))
  refine wpAnyH_take (i := 0) (oi := { dst := some 20, op := Op.move (Operand.tmp 0), type := 97, pos := "l08_games.go:60", after := #[], guard := none }) (v := .pointer (some ⟨pb, 0, none⟩)) rfl (by kernel_rfl) (by kernel_rfl) (by kernel_rfl) (fun _ _ _ h => h) (Or.inl ⟨by rfl, fun u hu => by (try dsimp only at hu); go_simp; try with_reducible rfl⟩) hHeld ?_
  simp only [Act.put, List.setIfInBounds_toArray, List.set_cons_zero, List.set_cons_succ]
  refine wpAnyH_take (i := 1) (oi := { dst := some 21, op := Op.nilCheck (Operand.tmp 20), type := 0, pos := "l08_games.go:60", after := #[{ on := 0, ground := Ground.data }], guard := none }) (v := .pointer (some ⟨pb, 0, none⟩)) rfl (by kernel_rfl) (by kernel_rfl) (by kernel_rfl) (fun _ _ _ h => h) (Or.inl ⟨by rfl, fun u hu => by (try dsimp only at hu); go_simp; try with_reducible rfl⟩) hHeld ?_
  simp only [Act.put, List.setIfInBounds_toArray, List.set_cons_zero, List.set_cons_succ]
  refine wpAnyH_take (i := 2) (oi := { dst := some 22, op := Op.fieldAddr 58 (Operand.tmp 21) 0, type := 0, pos := "l08_games.go:60", after := #[{ on := 1, ground := Ground.data }], guard := none }) (v := .pointer (some ⟨pb, 0, none⟩)) rfl (by kernel_rfl) (by kernel_rfl) (by kernel_rfl) (fun _ _ _ h => h) (Or.inl ⟨by rfl, fun u hu => by (try dsimp only at hu); go_simp; try with_reducible rfl⟩) hHeld ?_
  simp only [Act.put, List.setIfInBounds_toArray, List.set_cons_zero, List.set_cons_succ]
  refine wpAnyH_take (i := 3) (oi := { dst := some 23, op := Op.fieldAddr 34 (Operand.tmp 22) 0, type := 0, pos := "l08_games.go:60", after := #[{ on := 2, ground := Ground.data }], guard := none }) (v := .pointer (some ⟨pb, 0, none⟩)) rfl (by kernel_rfl) (by kernel_rfl) (by kernel_rfl) (fun _ _ _ h => h) (Or.inl ⟨by rfl, fun u hu => by (try dsimp only at hu); go_simp; try with_reducible rfl⟩) hHeld ?_
  simp only [Act.put, List.setIfInBounds_toArray, List.set_cons_zero, List.set_cons_succ]
  refine wpAnyH_take (i := 4) rfl (by kernel_rfl) (by kernel_rfl) (by kernel_rfl) (fun _ _ _ h => h) (yieldsIf_load_mid (by rfl) 31 _ rfl pb 0 rfl [.int .i64 p, .int .i64 s, .bool st, .bool sk, .bool re, .bool fe, .bool ag, .int .i64 c, .int .i64 l] _ (fun u hu => hu.1) Try.underlying31 rfl (by kernel_rfl)) hHeld ?_
  simp only [Act.put, List.setIfInBounds_toArray]
  refine wpAnyH_take (i := 5) (oi := { dst := some 25, op := Op.move (Operand.tmp 0), type := 97, pos := "l08_games.go:60", after := #[], guard := none }) (v := .pointer (some ⟨pb, 0, none⟩)) rfl (by kernel_rfl) (by kernel_rfl) (by kernel_rfl) (fun _ _ _ h => h) (Or.inl ⟨by rfl, fun u hu => by (try dsimp only at hu); go_simp; try with_reducible rfl⟩) hHeld ?_
  simp only [Act.put]
  refine wpAnyH_take (i := 6) (oi := { dst := some 26, op := Op.nilCheck (Operand.tmp 25), type := 0, pos := "l08_games.go:60", after := #[{ on := 5, ground := Ground.data }], guard := none }) (v := .pointer (some ⟨pb, 0, none⟩)) rfl (by kernel_rfl) (by kernel_rfl) (by kernel_rfl) (fun _ _ _ h => h) (Or.inl ⟨by rfl, fun u hu => by (try dsimp only at hu); go_simp; try with_reducible rfl⟩) hHeld ?_
  simp only [Act.put]
  refine wpAnyH_take (i := 7) (oi := { dst := some 27, op := Op.fieldAddr 58 (Operand.tmp 26) 0, type := 0, pos := "l08_games.go:60", after := #[{ on := 6, ground := Ground.data }], guard := none }) (v := .pointer (some ⟨pb, 0, none⟩)) rfl (by kernel_rfl) (by kernel_rfl) (by kernel_rfl) (fun _ _ _ h => h) (Or.inl ⟨by rfl, fun u hu => by (try dsimp only at hu); go_simp; try with_reducible rfl⟩) hHeld ?_
  simp only [Act.put]
  refine wpAnyH_take (i := 8) (oi := { dst := some 28, op := Op.fieldAddr 34 (Operand.tmp 27) 3, type := 0, pos := "l08_games.go:60", after := #[{ on := 7, ground := Ground.data }], guard := none }) (v := .pointer (some ⟨pb, 13, none⟩)) rfl (by kernel_rfl) (by kernel_rfl) (by kernel_rfl) (fun _ _ _ h => h) (Or.inl ⟨by rfl, fun u hu => by (try dsimp only at hu); go_simp; try with_reducible rfl⟩) hHeld ?_
  simp only [Act.put]
  refine wpAnyH_take (i := 9) rfl (by kernel_rfl) (by kernel_rfl) (by kernel_rfl) (fun _ _ _ h => h) (yieldsIf_load_mid (by rfl) 32 _ rfl pb 13 rfl [.slice (some ⟨h1, 0, none⟩) n1 d1, .slice (some ⟨h2, 0, none⟩) 2 d2, .int .i64 q.pl] _ (fun u hu => hu.2) Try.underlying32 rfl (by kernel_rfl)) hHeld ?_
  simp only [Act.put]
  refine wpAnyH_take (i := 10) (oi := { dst := some 30, op := Op.move (Operand.tmp 1), type := 2, pos := "l08_games.go:60", after := #[], guard := none }) (v := .int .i64 move) rfl (by kernel_rfl) (by kernel_rfl) (by kernel_rfl) (fun _ _ _ h => h) (Or.inl ⟨by rfl, fun u hu => by (try dsimp only at hu); go_simp; try with_reducible rfl⟩) hHeld ?_
  simp only [Act.put]
  refine wpAnyH_ready (rs := [11, 15]) (by kernel_rfl) (by simp) ?_
  refine AllReadyH.cons rfl (fun K hK => ?_) (AllReadyH.cons rfl (fun K hK => ?_) AllReadyH.nil)
  ·rw [if_pos (by rfl)]
   go_simp
   go_at_call 62
   refine (HMk.out _ HB.out).mono ?_
   rintro e w5 ⟨cs, hc1, hc2, rfl, hP, hb5⟩
   have hsz0 := HB.out.bel.size
   have HCs := Lib.hid (And.intro hc1 hc2)
   have HP5 := Lib.hid (MkP.low hP hsz0)
   have HB := Lib.hid (OnW.below HB.out hb5)
   have hsz5 := hb5.size
   clear hP hb5 hc1 hc2
   (try dsimp only)
   refine hK.out _ _ (HT.out _ HB.out) (fun hHeld => ?_)
   clear hK K
   (try simp only [Act.put, List.setIfInBounds_toArray, List.set_cons_zero, List.set_cons_succ])
   refine wpAnyH_take (i := 12) (oi := { dst := some 19, op := Op.move (Operand.tmp 31), type := 98, pos := "l08_games.go:60", after := #[{ on := 11, ground := Ground.data }], guard := none }) (v := .tuple #[.agg cs.toArray, .int .i64 cd]) rfl (by kernel_rfl) (by kernel_rfl) (by kernel_rfl) (fun _ _ _ h => h) (Or.inl ⟨by rfl, fun u hu => by (try dsimp only at hu); go_simp; try with_reducible rfl⟩) hHeld ?_
   simp only [Act.put, List.setIfInBounds_toArray, List.set_cons_zero, List.set_cons_succ]
   refine wpAnyH_take (i := 13) (oi := { dst := some 32, op := Op.extract (Operand.tmp 19) 0, type := 79, pos := "l08_games.go:60", after := #[{ on := 12, ground := Ground.data }], guard := none }) (v := .agg cs.toArray) rfl (by kernel_rfl) (by kernel_rfl) (by kernel_rfl) (fun _ _ _ h => h) (Or.inl ⟨by rfl, fun u hu => by (try dsimp only at hu); go_simp; try with_reducible rfl⟩) hHeld ?_
   simp only [Act.put, List.setIfInBounds_toArray, List.set_cons_zero, List.set_cons_succ]
   refine wpAnyH_take (i := 14) (oi := { dst := some 33, op := Op.extract (Operand.tmp 19) 1, type := 2, pos := "l08_games.go:60", after := #[{ on := 12, ground := Ground.data }, { on := 16, ground := Ground.gcOnly Departure.lateStores }], guard := none }) (v := .int .i64 cd) rfl (by kernel_rfl) (by kernel_rfl) (by kernel_rfl) (fun _ _ _ h => h) (Or.inl ⟨by rfl, fun u hu => by (try dsimp only at hu); go_simp; try with_reducible rfl⟩) hHeld ?_
   simp only [Act.put, List.setIfInBounds_toArray, List.set_cons_zero, List.set_cons_succ]
   refine wpAnyH_ready (rs := [15]) (by kernel_rfl) (by simp) ?_
   refine AllReadyH.cons rfl (fun K hK => ?_) AllReadyH.nil
   rw [if_pos (by rfl)]
   go_simp
   have HTh := Lib.hid (thN_new w5 79)
   have HB6 := Lib.hid (OnW.below HB.out (al1 w5 (.cells zero21.toArray 79)))
   have hs6 := HB.out.bel.size
   change K _ (w5.alloc (.cells zero21.toArray 79))
   (try dsimp only)
   refine hK.out _ _ (HT.out _ HB6.out) (fun hHeld => ?_)
   clear hK K
   (try simp only [Act.put, List.setIfInBounds_toArray, List.set_cons_zero, List.set_cons_succ])
   refine wpAnyH_ready (rs := [16]) (by kernel_rfl) (by simp) ?_
   refine AllReadyH.cons rfl (fun K hK => ?_) AllReadyH.nil
   rw [if_pos (by rfl)]
   refine wp_store_mid 79 _ _ rfl w5.heap.size 0 cs.toArray rfl rfl (by rw [show cs.toArray.size = 21 from by simpa using HCs.out.1]; exact HTh.out.th) (by rw [show cs.toArray.size = 21 from by simpa using HCs.out.1]; kernel_rfl) HCs.out.2 ?_
   (try simp only [Act.put, List.setIfInBounds_toArray])
   have HB7 := Lib.hid (show OnW u0 ((w5.alloc (.cells zero21.toArray 79)).setCells w5.heap.size 0 cs) from below_scg w5.heap.size hs6 cs 0 HB6.out)
   (try dsimp only)
   refine hK.out _ _ (HT.out _ HB7.out) (fun hHeld => ?_)
   clear hK K
   (try simp only [Act.put, List.setIfInBounds_toArray, List.set_cons_zero, List.set_cons_succ])
   refine wpAnyH_take (i := 17) (oi := { dst := some 6, op := Op.assign (Operand.tmp 33), type := 2, pos := "l08_games.go:60", after := #[{ on := 14, ground := Ground.data }, { on := 16, ground := Ground.chain }, { on := 0, ground := Ground.phase }, { on := 1, ground := Ground.phase }, { on := 2, ground := Ground.phase }, { on := 3, ground := Ground.phase }, { on := 4, ground := Ground.phase }, { on := 5, ground := Ground.phase }, { on := 6, ground := Ground.phase }, { on := 7, ground := Ground.phase }, { on := 8, ground := Ground.phase }, { on := 9, ground := Ground.phase }, { on := 10, ground := Ground.phase }, { on := 11, ground := Ground.phase }, { on := 12, ground := Ground.phase }, { on := 13, ground := Ground.phase }, { on := 14, ground := Ground.phase }, { on := 15, ground := Ground.phase }, { on := 16, ground := Ground.phase }], guard := none }) (v := .int .i64 cd) rfl (by kernel_rfl) (by kernel_rfl) (by kernel_rfl) (fun _ _ _ h => h) (Or.inl ⟨by rfl, fun u hu => by (try dsimp only at hu); go_simp; try with_reducible rfl⟩) hHeld ?_
   simp only [Act.put]
   refine wpAnyH_done (by kernel_rfl) ?_ _
   go_wp2_with fail
   go_meet
   exact ⟨w5.heap.size, cs, rfl, rfl, hs6, by rw [size_scg]; simp, World.rangeAt_setCells_same _ _ 0 _ (by rw [HCs.out.1]; exact HTh.out.th), HCs.out.1, HCs.out.2, MkP.below HP5.out (below_scg w5.heap.size (Nat.le_refl _) cs 0 (al1 w5 _)), HB7.out⟩
  ·rw [if_pos (by rfl)]
   go_simp
   have HTh := Lib.hid (thN_new u0 79)
   have HB6 := Lib.hid (OnW.drew (show OnW u0 (u0.alloc (.cells zero21.toArray 79)) from al1 u0 _))
   change K _ (u0.alloc (.cells zero21.toArray 79)).drew
   have HB := HB6
   (try dsimp only)
   refine hK.out _ _ (HT.out _ HB.out) (fun hHeld => ?_)
   clear hK K
   (try simp only [Act.put, List.setIfInBounds_toArray, List.set_cons_zero, List.set_cons_succ])
   refine wpAnyH_ready (rs := [11]) (by kernel_rfl) (by simp) ?_
   refine AllReadyH.cons rfl (fun K hK => ?_) AllReadyH.nil
   rw [if_pos (by rfl)]
   go_simp
   go_at_call 62
   refine (HMk.out _ HB.out).mono ?_
   rintro e w5 ⟨cs, hc1, hc2, rfl, hP, hb5⟩
   have hsz0 := HB.out.bel.size
   have HCs := Lib.hid (And.intro hc1 hc2)
   have HTh5 := Lib.hid (ThN.below (ThN.below HTh.out (Below.refl _ _).drew) hb5)
   have HP5 := Lib.hid hP
   have HB := Lib.hid (OnW.below HB.out hb5)
   have hsz5 := hb5.size
   clear hP hb5 hc1 hc2
   (try dsimp only)
   refine hK.out _ _ (HT.out _ HB.out) (fun hHeld => ?_)
   clear hK K
   (try simp only [Act.put, List.setIfInBounds_toArray, List.set_cons_zero, List.set_cons_succ])
   refine wpAnyH_take (i := 12) (oi := { dst := some 19, op := Op.move (Operand.tmp 31), type := 98, pos := "l08_games.go:60", after := #[{ on := 11, ground := Ground.data }], guard := none }) (v := .tuple #[.agg cs.toArray, .int .i64 cd]) rfl (by kernel_rfl) (by kernel_rfl) (by kernel_rfl) (fun _ _ _ h => h) (Or.inl ⟨by rfl, fun u hu => by (try dsimp only at hu); go_simp; try with_reducible rfl⟩) hHeld ?_
   simp only [Act.put, List.setIfInBounds_toArray, List.set_cons_zero, List.set_cons_succ]
   refine wpAnyH_take (i := 13) (oi := { dst := some 32, op := Op.extract (Operand.tmp 19) 0, type := 79, pos := "l08_games.go:60", after := #[{ on := 12, ground := Ground.data }], guard := none }) (v := .agg cs.toArray) rfl (by kernel_rfl) (by kernel_rfl) (by kernel_rfl) (fun _ _ _ h => h) (Or.inl ⟨by rfl, fun u hu => by (try dsimp only at hu); go_simp; try with_reducible rfl⟩) hHeld ?_
   simp only [Act.put, List.setIfInBounds_toArray, List.set_cons_zero, List.set_cons_succ]
   refine wpAnyH_take (i := 14) (oi := { dst := some 33, op := Op.extract (Operand.tmp 19) 1, type := 2, pos := "l08_games.go:60", after := #[{ on := 12, ground := Ground.data }, { on := 16, ground := Ground.gcOnly Departure.lateStores }], guard := none }) (v := .int .i64 cd) rfl (by kernel_rfl) (by kernel_rfl) (by kernel_rfl) (fun _ _ _ h => h) (Or.inl ⟨by rfl, fun u hu => by (try dsimp only at hu); go_simp; try with_reducible rfl⟩) hHeld ?_
   simp only [Act.put, List.setIfInBounds_toArray, List.set_cons_zero, List.set_cons_succ]
   refine wpAnyH_ready (rs := [16]) (by kernel_rfl) (by simp) ?_
   refine AllReadyH.cons rfl (fun K hK => ?_) AllReadyH.nil
   rw [if_pos (by rfl)]
   refine wp_store_mid 79 _ _ rfl u0.heap.size 0 cs.toArray rfl rfl (by rw [show cs.toArray.size = 21 from by simpa using HCs.out.1]; exact HTh5.out.th) (by rw [show cs.toArray.size = 21 from by simpa using HCs.out.1]; kernel_rfl) HCs.out.2 ?_
   (try simp only [Act.put, List.setIfInBounds_toArray])
   have HB7 := Lib.hid (show OnW u0 (w5.setCells u0.heap.size 0 cs) from below_scg u0.heap.size (Nat.le_refl _) cs 0 HB.out)
   (try dsimp only)
   refine hK.out _ _ (HT.out _ HB7.out) (fun hHeld => ?_)
   clear hK K
   (try simp only [Act.put, List.setIfInBounds_toArray, List.set_cons_zero, List.set_cons_succ])
   refine wpAnyH_take (i := 17) (oi := { dst := some 6, op := Op.assign (Operand.tmp 33), type := 2, pos := "l08_games.go:60", after := #[{ on := 14, ground := Ground.data }, { on := 16, ground := Ground.chain }, { on := 0, ground := Ground.phase }, { on := 1, ground := Ground.phase }, { on := 2, ground := Ground.phase }, { on := 3, ground := Ground.phase }, { on := 4, ground := Ground.phase }, { on := 5, ground := Ground.phase }, { on := 6, ground := Ground.phase }, { on := 7, ground := Ground.phase }, { on := 8, ground := Ground.phase }, { on := 9, ground := Ground.phase }, { on := 10, ground := Ground.phase }, { on := 11, ground := Ground.phase }, { on := 12, ground := Ground.phase }, { on := 13, ground := Ground.phase }, { on := 14, ground := Ground.phase }, { on := 15, ground := Ground.phase }, { on := 16, ground := Ground.phase }], guard := none }) (v := .int .i64 cd) rfl (by kernel_rfl) (by kernel_rfl) (by kernel_rfl) (fun _ _ _ h => h) (Or.inl ⟨by rfl, fun u hu => by (try dsimp only at hu); go_simp; try with_reducible rfl⟩) hHeld ?_
   simp only [Act.put]
   refine wpAnyH_done (by kernel_rfl) ?_ _
   go_wp2_with fail
   go_meet
   exact ⟨u0.heap.size, cs, rfl, rfl, Nat.le_refl _, by rw [size_scg]; exact HTh5.out.lt, World.rangeAt_setCells_same _ _ 0 _ (by rw [HCs.out.1]; exact HTh5.out.th), HCs.out.1, HCs.out.2, MkP.low (MkP.but9 HP5.out (but_scg u0.heap.size cs 0 (But.refl _ _)) (by simp)) (by simp), HB7.out⟩
 case rest =>
  obtain ⟨z, cs, rfl, rfl, hz, hzl, hrg, hcl, hone, hP, hB⟩ := hcut
  cases LV with
  | none =>
   have d := HCd.out.1 rfl
   have hbB := Lib.hid (Below.trans hbu.out (Below.mono hB hbu.out.size))
   clear hrg hone hP hB hcl c12
   go_wp2_with fail
   go_ret
   exact ⟨rfl, hbB.out⟩
  | some mr =>
   obtain rfl := HCd.out.2 (by simp)
   obtain ⟨hnx, hl1, hl2⟩ := HLV.out mr rfl
   obtain ⟨s1, s2, sc1, sc2, g1, k1, g2, k2, rfl, ho, l1, l2, kk1, kk2⟩ := hP
   have hpz : pb < u0.heap.size := H.out.g.lt
   have HP5 := Lib.hid ((H.out.below hB).rows (H0 := u0.heap.size) H.out.be.size (fun i hi => (own_lt H.out.mo i hi).2) (fun i hi => (own_lt H.out.tu i hi).2) hpz ho l1 l2)
   have ng1 := ho.o1.new
   have ng2 := ho.o2.new
   have hv1z : ∀ i, (Value.slice ma ms.length mc).ownBlock = some i → i < u0.heap.size := fun i hi => (own_lt H.out.mo i hi).2
   have hv2z : ∀ i, v2.ownBlock = some i → i < u0.heap.size := fun i hi => (own_lt H.out.tu i hi).2
   have HV1 := Lib.hid hv1z
   have HV2 := Lib.hid hv2z
   have hb1 := fun y hy => (H.out.rws y hy).lt
   have hDs : Dist b1 b2 g1 g2 := ⟨by have := hb1 _ H.out.s1; simp only at this; omega, by have := hb1 _ H.out.s1; simp only at this; omega, by have := hb1 _ H.out.s2; simp only at this; omega, by have := hb1 _ H.out.s2; simp only at this; omega, H.out.di.2.2.2.2.1, ho.ne⟩
   have HRz := Lib.hid hrg
   have HIt : Hid (ItT ((g1, mr.2.xs) :: (g2, mr.2.ys) :: R) b1 b2 n1 (⟨q, mr.1, mr.2⟩, ⟨h1, h2, d1, d2, s1, s2, sc1, sc2, g1, g2, k1, k2⟩)) := Lib.hid ⟨.tail _ (.tail _ H.out.y1), .tail _ (.tail _ H.out.y2), .head _, .tail _ (.head _), H.out.di, hDs, H.out.m3, H.out.m4, hl1, hl2, H.out.k3, H.out.k4, kk1, kk2⟩
   have HDs := Lib.hid (And.intro hDs (And.intro hl1 (And.intro hl2 (And.intro kk1 (And.intro kk2 hnx)))))
   have c12 := HP5.out.g.c12
   have hwcs := HP5.out.be.size
   clear hrg hone hcl ho l1 l2 hv1z hv2z hb1 hDs hl1 hl2 kk1 kk2 hnx
   go_upto_region 9 with (at_builtin; refine wpList_append_lies _ rfl _ _ 24 rfl w.heap.size 2 i1 (.int .i64 0) 1 8 Try.underlying24 hi1 hy0 hy1 hy2 rfl (by decide) (.slice ma ms.length mc) ms.length (nvs ms) rfl (own_keepS HP5.out.mo (al1 _ _)) ⟨wc.heap.size, 0, none⟩ 1 1 (nvs [move]) rfl (by simp [nvs]) (row_news (row_oneL wc move 2)) (nvs_cell _) (by decide) (by unfold maxLen; omega) (by omega) (by simp; omega) _ rfl ?_; intro g cap w7 hown7 hgrow7 hat7 hlt7; (obtain ⟨bb, hbb, kb7⟩ := grown_but hgrow7 pb HP5.out.p1); have G7 := (HP5.out.g.below (al1 wc _)).but kb7 hbb; have c12' := G7.c12; have f12 := G7.fr 12; have l12 := G7.lt; clear G7)
   have HP6 := Lib.hid ((HP5.out.below (al1 wc (.cells #[.int .i64 move] 2))).pushM hown7 hgrow7 (by simpa using hat7))
   have HRz6 := Lib.hid (rg_but (rg_grown (rg_below HRz.out hzl (al1 wc (.cells #[.int .i64 move] 2))) (by simp; omega) hgrow7 (fun i hi => by have := HV1.out i hi; omega)) (Nat.lt_of_lt_of_le hzl (by have := hgrow7.size; simp at this; omega)) (show z ≠ pb by omega) (but_setM pb w7 (.slice (some ⟨g, 0, none⟩) (ms.length + 1) cap)))
   have hz8 : z < (w7.setCell ⟨pb, 12, none⟩ (.slice (some ⟨g, 0, none⟩) (ms.length + 1) cap)).heap.size := by have := hgrow7.size; simp at this ⊢; omega
   clear hown7 hgrow7 hat7 hlt7 kb7 hbb c12' f12 l12 c12
   generalize w7.setCell ⟨pb, 12, none⟩ (.slice (some ⟨g, 0, none⟩) (ms.length + 1) cap) = W8 at *
   have HB8 := Lib.hid (Below.refl W8.heap.size W8).drew
   have HA9 := Lib.hid (al1 W8.drew (.cells (cells21 p s c l st sk re fe ag n1 (⟨q, mr.1, mr.2⟩, ⟨h1, h2, d1, d2, s1, s2, sc1, sc2, g1, g2, k1, k2⟩)).toArray 79))
   go_cut [49] (fun s49 wx => s49 = .pointer (some ⟨pb, 0, none⟩) ∧ ∃ (v2' : Value) (x : T21 × Q21), PlK w pb p s c l st sk re fe ag n1 b1 e1 b2 e2 sp sx sy (.slice (some ⟨g, 0, none⟩) (ms.length + 1) cap) v2' (ms ++ [move]) (L ++ [x]) h1 d1 h2 d2 q (-1) ((g1, mr.2.xs) :: (g2, mr.2.ys) :: R) wx ∧ x.1 = ⟨q, mr.1, mr.2⟩ ∧ wx.rangeAt z 0 (cells21 p s c l st sk re fe ag n1 (⟨q, mr.1, mr.2⟩, ⟨h1, h2, d1, d2, s1, s2, sc1, sc2, g1, g2, k1, k2⟩)) ∧ z < wx.heap.size)
   case first =>
    refine wp_region_held_drew (S := (fun u => u.rangeAt z 0 (cells21 p s c l st sk re fe ag n1 (⟨q, mr.1, mr.2⟩, ⟨h1, h2, d1, d2, s1, s2, sc1, sc2, g1, g2, k1, k2⟩)))) (by kernel_rfl) (rg_below HRz6.out hz8 HB8.out) (fun hHeld => ?_)
    refine wpAnyH_take (i := 0) (oi := { dst := some 49, op := Op.move (Operand.tmp 0), type := 97, pos := "l08_games.go:65", after := #[], guard := none }) (v := .pointer (some ⟨pb, 0, none⟩)) rfl (by kernel_rfl) (by kernel_rfl) (by kernel_rfl) (fun _ _ _ h => h) (Or.inl ⟨by rfl, fun u hu => by (try dsimp only at hu); go_simp; try with_reducible rfl⟩) hHeld ?_
    simp only [Act.put, List.setIfInBounds_toArray, List.set_cons_zero, List.set_cons_succ]
    refine wpAnyH_take (i := 1) (oi := { dst := some 50, op := Op.move (Operand.tmp 0), type := 97, pos := "l08_games.go:65", after := #[], guard := none }) (v := .pointer (some ⟨pb, 0, none⟩)) rfl (by kernel_rfl) (by kernel_rfl) (by kernel_rfl) (fun _ _ _ h => h) (Or.inl ⟨by rfl, fun u hu => by (try dsimp only at hu); go_simp; try with_reducible rfl⟩) hHeld ?_
    simp only [Act.put, List.setIfInBounds_toArray, List.set_cons_zero, List.set_cons_succ]
    refine wpAnyH_take (i := 2) (oi := { dst := some 51, op := Op.nilCheck (Operand.tmp 50), type := 0, pos := "l08_games.go:65", after := #[{ on := 1, ground := Ground.data }], guard := none }) (v := .pointer (some ⟨pb, 0, none⟩)) rfl (by kernel_rfl) (by kernel_rfl) (by kernel_rfl) (fun _ _ _ h => h) (Or.inl ⟨by rfl, fun u hu => by (try dsimp only at hu); go_simp; try with_reducible rfl⟩) hHeld ?_
    simp only [Act.put, List.setIfInBounds_toArray, List.set_cons_zero, List.set_cons_succ]
    refine wpAnyH_take (i := 3) (oi := { dst := some 52, op := Op.fieldAddr 58 (Operand.tmp 51) 1, type := 0, pos := "l08_games.go:65", after := #[{ on := 2, ground := Ground.data }], guard := none }) (v := .pointer (some ⟨pb, 17, none⟩)) rfl (by kernel_rfl) (by kernel_rfl) (by kernel_rfl) (fun _ _ _ h => h) (Or.inl ⟨by rfl, fun u hu => by (try dsimp only at hu); go_simp; try with_reducible rfl⟩) hHeld ?_
    simp only [Act.put, List.setIfInBounds_toArray, List.set_cons_zero, List.set_cons_succ]
    refine wpAnyH_take (i := 5) rfl (by kernel_rfl) (by kernel_rfl) (by kernel_rfl) (fun _ _ _ h => h) (yieldsIf_load_mid (by rfl) 79 _ rfl z 0 rfl (cells21 p s c l st sk re fe ag n1 (⟨q, mr.1, mr.2⟩, ⟨h1, h2, d1, d2, s1, s2, sc1, sc2, g1, g2, k1, k2⟩)) _ (fun u hu => hu) Try.underlying79 rfl (by kernel_rfl)) hHeld ?_
    simp only [Act.put, List.setIfInBounds_toArray]
    refine wpAnyH_ready (rs := [4, 6]) (by kernel_rfl) (by simp) ?_
    refine AllReadyH.cons rfl (fun K hK => ?_) (AllReadyH.cons rfl (fun K hK => ?_) AllReadyH.nil)
    ·rw [if_pos (by rfl)]
     have tv8 := HP6.out.drew.tv
     go_simp
     (try dsimp only)
     refine hK.out _ _ (rg_below HRz6.out hz8 HB8.out) (fun hHeld => ?_)
     clear hK K
     (try simp only [Act.put, List.setIfInBounds_toArray, List.set_cons_zero, List.set_cons_succ])
     refine wpAnyH_ready (rs := [6]) (by kernel_rfl) (by simp) ?_
     refine AllReadyH.cons rfl (fun K hK => ?_) AllReadyH.nil
     rw [if_pos (by rfl)]
     unfold cells21
     go_simp
     change K _ (W8.drew.alloc (.cells (cells21 p s c l st sk re fe ag n1 (⟨q, mr.1, mr.2⟩, ⟨h1, h2, d1, d2, s1, s2, sc1, sc2, g1, g2, k1, k2⟩)).toArray 79))
     (try dsimp only)
     refine hK.out _ _ (rg_below (rg_below HRz6.out hz8 HB8.out) hz8 HA9.out) (fun hHeld => ?_)
     clear hK K
     (try simp only [Act.put, List.setIfInBounds_toArray, List.set_cons_zero, List.set_cons_succ])
     refine wpAnyH_ready (rs := [7]) (by kernel_rfl) (by simp) ?_
     refine AllReadyH.cons rfl (fun K hK => ?_) AllReadyH.nil
     refine step_append_lies _ rfl _ _ 56 rfl w.heap.size 79 i2 (.agg zero21.toArray) 21 232 Try.underlying56 hi2 hx0 hx1 hx2 rfl (by decide) v2 L.length (flat21 p s c l st sk re fe ag n1 L) rfl (own_keepS HP6.out.drew.tu (al1 _ _)) ⟨W8.heap.size, 0, none⟩ 1 1 (cells21 p s c l st sk re fe ag n1 (⟨q, mr.1, mr.2⟩, ⟨h1, h2, d1, d2, s1, s2, sc1, sc2, g1, g2, k1, k2⟩)) rfl rfl (cells21_news W8.drew 79 (cells21 p s c l st sk re fe ag n1 (⟨q, mr.1, mr.2⟩, ⟨h1, h2, d1, d2, s1, s2, sc1, sc2, g1, g2, k1, k2⟩)) W8.heap.size rfl) (cells21_one _) (by decide) (by have := HLl.out; unfold maxLen; omega) (by have := HLl.out; omega) (by have := HP6.out.be.size; simp; omega) _ rfl ?_
     intro g' cap' w9 hown9 hgrow9 hat9 hlt9
     have HP9 := Lib.hid (HP6.out.drew.below HA9.out)
     have HRz9 := Lib.hid (rg_grown (rg_below (rg_below HRz6.out hz8 HB8.out) hz8 HA9.out) (by simp; omega) hgrow9 (fun i hi => by have := HV2.out i hi; omega))
     (obtain ⟨bb, hbb, kb9⟩ := grown_but hgrow9 pb HP9.out.p2)
     have G9 := HP9.out.g.but kb9 hbb
     have tv9 := (kb9.cell (o := 17) HP9.out.g.lt hbb).trans HP9.out.tv
     have f17 := G9.fr 17
     have l17 := G9.lt
     (try dsimp only)
     refine hK.out _ _ HRz9.out (fun hHeld => ?_)
     clear hK K
     (try simp only [Act.put, List.setIfInBounds_toArray])
     refine wpAnyH_take (i := 8) (oi := { dst := some 57, op := Op.nilCheck (Operand.tmp 49), type := 0, pos := "l08_games.go:65", after := #[{ on := 0, ground := Ground.data }, { on := 0, ground := Ground.phase }, { on := 1, ground := Ground.phase }, { on := 2, ground := Ground.phase }, { on := 3, ground := Ground.phase }, { on := 4, ground := Ground.phase }, { on := 5, ground := Ground.phase }, { on := 6, ground := Ground.phase }, { on := 7, ground := Ground.phase }], guard := none }) (v := .pointer (some ⟨pb, 0, none⟩)) rfl (by kernel_rfl) (by kernel_rfl) (by kernel_rfl) (fun _ _ _ h => h) (Or.inl ⟨by rfl, fun u hu => by (try dsimp only at hu); go_simp; try with_reducible rfl⟩) hHeld ?_
     simp only [Act.put]
     refine wpAnyH_take (i := 9) (oi := { dst := some 58, op := Op.fieldAddr 58 (Operand.tmp 57) 1, type := 0, pos := "l08_games.go:65", after := #[{ on := 8, ground := Ground.data }, { on := 0, ground := Ground.phase }, { on := 1, ground := Ground.phase }, { on := 2, ground := Ground.phase }, { on := 3, ground := Ground.phase }, { on := 4, ground := Ground.phase }, { on := 5, ground := Ground.phase }, { on := 6, ground := Ground.phase }, { on := 7, ground := Ground.phase }], guard := none }) (v := .pointer (some ⟨pb, 17, none⟩)) rfl (by kernel_rfl) (by kernel_rfl) (by kernel_rfl) (fun _ _ _ h => h) (Or.inl ⟨by rfl, fun u hu => by (try dsimp only at hu); go_simp; try with_reducible rfl⟩) hHeld ?_
     simp only [Act.put]
     refine wpAnyH_ready (rs := [10]) (by kernel_rfl) (by simp) ?_
     refine AllReadyH.cons rfl (fun K hK => ?_) AllReadyH.nil
     rw [if_pos (by rfl)]
     go_simp
     have HRz10 := Lib.hid (rg_but HRz9.out (Nat.lt_of_lt_of_le hz8 (by have := hgrow9.size; simp at this; omega)) (show z ≠ pb by omega) ((But.refl pb w9).setCell (p := ⟨pb, 17, none⟩) rfl (.slice (some ⟨g', 0, none⟩) (L.length + 1) cap')))
     have HP10 := Lib.hid (HP9.out.pushT HIt.out hown9 hgrow9 (by simpa using hat9))
     (try dsimp only)
     refine hK.out _ _ HRz10.out (fun hHeld => ?_)
     clear hK K
     (try simp only [Act.put, List.setIfInBounds_toArray, List.set_cons_zero, List.set_cons_succ])
     refine wpAnyH_done (by kernel_rfl) ?_ _
     go_wp2_with fail
     go_meet
     exact ⟨rfl, _, _, HP10.out, rfl, HRz10.out, Nat.lt_of_lt_of_le hz8 (by have := hgrow9.size; simp at this ⊢; omega)⟩
    ·rw [if_pos (by rfl)]
     unfold cells21
     go_simp
     change K _ (W8.drew.alloc (.cells (cells21 p s c l st sk re fe ag n1 (⟨q, mr.1, mr.2⟩, ⟨h1, h2, d1, d2, s1, s2, sc1, sc2, g1, g2, k1, k2⟩)).toArray 79))
     (try dsimp only)
     refine hK.out _ _ (rg_below (rg_below HRz6.out hz8 HB8.out) hz8 HA9.out) (fun hHeld => ?_)
     clear hK K
     (try simp only [Act.put, List.setIfInBounds_toArray, List.set_cons_zero, List.set_cons_succ])
     refine wpAnyH_ready (rs := [4]) (by kernel_rfl) (by simp) ?_
     refine AllReadyH.cons rfl (fun K hK => ?_) AllReadyH.nil
     rw [if_pos (by rfl)]
     have tv8 := HP6.out.tv; have l8 := HP6.out.g.lt
     go_simp
     change K _ (W8.drew.alloc (.cells (cells21 p s c l st sk re fe ag n1 (⟨q, mr.1, mr.2⟩, ⟨h1, h2, d1, d2, s1, s2, sc1, sc2, g1, g2, k1, k2⟩)).toArray 79))
     (try dsimp only)
     refine hK.out _ _ (rg_below (rg_below HRz6.out hz8 HB8.out) hz8 HA9.out) (fun hHeld => ?_)
     clear hK K
     (try simp only [Act.put, List.setIfInBounds_toArray, List.set_cons_zero, List.set_cons_succ])
     refine wpAnyH_ready (rs := [7]) (by kernel_rfl) (by simp) ?_
     refine AllReadyH.cons rfl (fun K hK => ?_) AllReadyH.nil
     refine step_append_lies _ rfl _ _ 56 rfl w.heap.size 79 i2 (.agg zero21.toArray) 21 232 Try.underlying56 hi2 hx0 hx1 hx2 rfl (by decide) v2 L.length (flat21 p s c l st sk re fe ag n1 L) rfl (own_keepS HP6.out.drew.tu (al1 _ _)) ⟨W8.heap.size, 0, none⟩ 1 1 (cells21 p s c l st sk re fe ag n1 (⟨q, mr.1, mr.2⟩, ⟨h1, h2, d1, d2, s1, s2, sc1, sc2, g1, g2, k1, k2⟩)) rfl rfl (cells21_news W8.drew 79 (cells21 p s c l st sk re fe ag n1 (⟨q, mr.1, mr.2⟩, ⟨h1, h2, d1, d2, s1, s2, sc1, sc2, g1, g2, k1, k2⟩)) W8.heap.size rfl) (cells21_one _) (by decide) (by have := HLl.out; unfold maxLen; omega) (by have := HLl.out; omega) (by have := HP6.out.be.size; simp; omega) _ rfl ?_
     intro g' cap' w9 hown9 hgrow9 hat9 hlt9
     have HP9 := Lib.hid (HP6.out.drew.below HA9.out)
     have HRz9 := Lib.hid (rg_grown (rg_below (rg_below HRz6.out hz8 HB8.out) hz8 HA9.out) (by simp; omega) hgrow9 (fun i hi => by have := HV2.out i hi; omega))
     (obtain ⟨bb, hbb, kb9⟩ := grown_but hgrow9 pb HP9.out.p2)
     have G9 := HP9.out.g.but kb9 hbb
     have tv9 := (kb9.cell (o := 17) HP9.out.g.lt hbb).trans HP9.out.tv
     have f17 := G9.fr 17
     have l17 := G9.lt
     (try dsimp only)
     refine hK.out _ _ HRz9.out (fun hHeld => ?_)
     clear hK K
     (try simp only [Act.put, List.setIfInBounds_toArray])
     refine wpAnyH_take (i := 8) (oi := { dst := some 57, op := Op.nilCheck (Operand.tmp 49), type := 0, pos := "l08_games.go:65", after := #[{ on := 0, ground := Ground.data }, { on := 0, ground := Ground.phase }, { on := 1, ground := Ground.phase }, { on := 2, ground := Ground.phase }, { on := 3, ground := Ground.phase }, { on := 4, ground := Ground.phase }, { on := 5, ground := Ground.phase }, { on := 6, ground := Ground.phase }, { on := 7, ground := Ground.phase }], guard := none }) (v := .pointer (some ⟨pb, 0, none⟩)) rfl (by kernel_rfl) (by kernel_rfl) (by kernel_rfl) (fun _ _ _ h => h) (Or.inl ⟨by rfl, fun u hu => by (try dsimp only at hu); go_simp; try with_reducible rfl⟩) hHeld ?_
     simp only [Act.put]
     refine wpAnyH_take (i := 9) (oi := { dst := some 58, op := Op.fieldAddr 58 (Operand.tmp 57) 1, type := 0, pos := "l08_games.go:65", after := #[{ on := 8, ground := Ground.data }, { on := 0, ground := Ground.phase }, { on := 1, ground := Ground.phase }, { on := 2, ground := Ground.phase }, { on := 3, ground := Ground.phase }, { on := 4, ground := Ground.phase }, { on := 5, ground := Ground.phase }, { on := 6, ground := Ground.phase }, { on := 7, ground := Ground.phase }], guard := none }) (v := .pointer (some ⟨pb, 17, none⟩)) rfl (by kernel_rfl) (by kernel_rfl) (by kernel_rfl) (fun _ _ _ h => h) (Or.inl ⟨by rfl, fun u hu => by (try dsimp only at hu); go_simp; try with_reducible rfl⟩) hHeld ?_
     simp only [Act.put]
     refine wpAnyH_ready (rs := [10]) (by kernel_rfl) (by simp) ?_
     refine AllReadyH.cons rfl (fun K hK => ?_) AllReadyH.nil
     rw [if_pos (by rfl)]
     go_simp
     have HRz10 := Lib.hid (rg_but HRz9.out (Nat.lt_of_lt_of_le hz8 (by have := hgrow9.size; simp at this; omega)) (show z ≠ pb by omega) ((But.refl pb w9).setCell (p := ⟨pb, 17, none⟩) rfl (.slice (some ⟨g', 0, none⟩) (L.length + 1) cap')))
     have HP10 := Lib.hid (HP9.out.pushT HIt.out hown9 hgrow9 (by simpa using hat9))
     (try dsimp only)
     refine hK.out _ _ HRz10.out (fun hHeld => ?_)
     clear hK K
     (try simp only [Act.put, List.setIfInBounds_toArray, List.set_cons_zero, List.set_cons_succ])
     refine wpAnyH_done (by kernel_rfl) ?_ _
     go_wp2_with fail
     go_meet
     exact ⟨rfl, _, _, HP10.out, rfl, HRz10.out, Nat.lt_of_lt_of_le hz8 (by have := hgrow9.size; simp at this ⊢; omega)⟩
   case rest =>
    obtain ⟨rfl, v2', x, hP9, hx, hrz, hzl9⟩ := hcut
    have HP9 := Lib.hid hP9
    have HRz9 := Lib.hid hrz
    have HX := Lib.hid hx
    obtain ⟨hDs, hl1, hl2, kk1, kk2, hnx⟩ := HDs.out
    have HNx := Lib.hid hnx
    have HDs2 := Lib.hid (And.intro hDs (And.intro hl1 (And.intro hl2 (And.intro kk1 kk2))))
    clear hP9 hrz hx hDs hl1 hl2 kk1 kk2 hnx
    go_wp2_with (refine wpList_load_mid rfl 79 _ rfl z 0 rfl _ _ HRz9.out Try.underlying79 rfl (by kernel_rfl) ?_)
    refine (nextM_any p s c l st sk re fe ag q.pl s1 s2 n1 sc1 2 sc2 mr.1.last mr.1.laps (some ⟨h1, 0, none⟩) (some ⟨h2, 0, none⟩) n1 d1 2 d2 q.pl (some ⟨g1, 0, none⟩) (some ⟨g2, 0, none⟩) n1 k1 2 k2 mr.1.last mr.1.laps _ Hpl.out).mono ?_
    rintro e w10 ⟨rfl, hb⟩
    rw [← HNx.out]
    have HP10 := Lib.hid (HP9.out.below hb)
    obtain ⟨lt, -, -, -, -, -, -, -, -, -, -, -, -, -, q13, q14, q15, -, fr⟩ := HP10.out.g
    have f13 := fr 13
    have f14 := fr 14
    have f15 := fr 15
    clear fr hb
    go_wp2_with fail
    go_ret
    obtain ⟨hDs, hl1, hl2, kk1, kk2⟩ := HDs2.out
    exact ⟨rfl, _, v2', x, g1, k1, g2, k2, _, HP10.out.turn (q' := mr.2.ps) (.head _) (.tail _ (.head _)) hDs hl1 hl2 kk1 kk2, HX.out⟩
/- Pl9 -/
theorem own_lowerS {w : World} {B C e s n : Nat} {v : Value} {xs : List Value} (h : w.ownsRow B e s v n xs) (hc : C ≤ B) : w.ownsRow C e s v n xs := by
 obtain ⟨h1, h2 | ⟨g, cap, cur, hv, hb, hr⟩⟩ := h
 ·exact ⟨h1, .inl h2⟩
 ·exact ⟨h1, .inr ⟨g, cap, cur, hv, Nat.le_trans hc hb, hr⟩⟩
section
variable {w w2 u v : World} {pb : Nat} {p s c l : Int} {st sk re fe ag : Bool} {n1 b1 e1 b2 e2 : Nat} {sp : Int} {sx sy : List Int} {v1 v2 : Value} {ms : List Int} {L : List (T21 × Q21)} {h1 d1 h2 d2 : Nat} {q : Ps} {rg : Int} {R : List (Nat × List Int)}
theorem PlK.leave (h : PlK w2 pb p s c l st sk re fe ag n1 b1 e1 b2 e2 sp sx sy v1 v2 ms L h1 d1 h2 d2 q rg R u) (hb : Below w.heap.size w w2) {z : Nat} (hz : z < w2.heap.size) (hz2 : w.heap.size ≤ z) (k : But z u v) : PlK w pb p s c l st sk re fe ag n1 b1 e1 b2 e2 sp sx sy v1 v2 ms L h1 d1 h2 d2 q rg R v := by
 have hpm := h.pm
 have hs := hb.size
 have tv := (k.cell (o := 17) h.g.lt (show pb ≠ z by omega)).trans h.tv
 refine ⟨h.g.but k (by omega), tv, own_lowerS (own_butS h.mo k (fun i hi => by have := (own_lt h.mo i hi).1; omega)) hs, own_lowerS (own_butS h.tu k (fun i hi => by have := (own_lt h.tu i hi).1; omega)) hs, fun y hy => ?_, h.sv, h.p1, h.p2, h.it, h.s1, h.s2, h.y1, h.y2, h.di, h.m1, h.m2, h.m3, h.m4, h.k1, h.k2, h.k3, h.k4, by omega, But.lift (hb.trans (h.be.mono hs)) k hz2⟩
 have hy' := h.rws y hy
 have hn := hy'.o.new
 exact ⟨(hy'.o.but k (by omega)).lower hs, Nat.lt_of_lt_of_le hy'.lt k.size, hy'.ne, hy'.n1, hy'.n2⟩
theorem PlK.setRg (h : PlK w pb p s c l st sk re fe ag n1 b1 e1 b2 e2 sp sx sy v1 v2 ms L h1 d1 h2 d2 q rg R u) (x : Int) : PlK w pb p s c l st sk re fe ag n1 b1 e1 b2 e2 sp sx sy v1 v2 ms L h1 d1 h2 d2 q x R (u.setCell ⟨pb, 16, none⟩ (.int .i64 x)) := by
 have k := but_setG pb u (.int .i64 x)
 have t := h.tv
 exact ⟨h.g.setG _, by go_simp, own_butS h.mo k h.p1, own_butS h.tu k h.p2, fun y hy => (h.rws y hy).but k (h.rws y hy).ne, h.sv, h.p1, h.p2, h.it, h.s1, h.s2, h.y1, h.y2, h.di, h.m1, h.m2, h.m3, h.m4, h.k1, h.k2, h.k3, h.k4, h.pm, But.lift h.be k h.pm⟩
end
theorem pmove_full (w : World) (pb : Nat) (p s c l : Int) (st sk re fe ag : Bool) (n1 b1 e1 b2 e2 : Nat) (sp : Int) (sx sy : List Int) (v1 v2 : Value) (ms : List Int) (L : List (T21 × Q21)) (h1 d1 h2 d2 : Nat) (q : Ps) (R : List (Nat × List Int)) (move : Int) (u : World) (h : PlK w pb p s c l st sk re fe ag n1 b1 e1 b2 e2 sp sx sy v1 v2 ms L h1 d1 h2 d2 q (-1) R u) (hms : ms.length = 120) :
  Calls Try.prog 51 #[.pointer (some ⟨pb, 0, none⟩), .int .i64 move] u (BelP (.int .i64 5) u) := by
 obtain ⟨ma, mc, hv1⟩ := slice_own h.mo
 rw [hms] at hv1
 subst hv1
 have H := Lib.hid h
 have HRg := Lib.hid (TGm.rg h.g)
 have c12 := h.g.c12
 clear h hms
 go_enter Try.func51, Try.ntmps51
 go_wp2_with (refine wpList_load_mid rfl 34 _ rfl pb 0 rfl _ _ HRg.out Try.underlying34 rfl (by kernel_rfl) ?_)
 refine (hasR_no _ _ _ _ _ _ _ _ _ _ _ _ _ _ _ _ _ _ _ _ _ _ _ _ _ _ _ _ rfl).mono ?_
 rintro e u0 ⟨rfl, hb⟩
 have H := Lib.hid (H.out.below hb)
 have c12 := H.out.g.c12
 have hbu := Lib.hid hb
 clear hb HRg
 go_wp2_with fail
 go_ret
 exact ⟨rfl, hbu.out⟩
/- Rp8 -/
def zero18 : List Value := [.int .i64 0, .int .i64 0, .bool false, .bool false, .bool false, .bool false, .bool false, .int .i64 0, .int .i64 0, .slice none 0 0, .slice none 0 0, .int .i64 0, .slice none 0 0, .slice none 0 0, .slice none 0 0, .int .i64 0, .int .i64 0, .slice none 0 0]
theorem zero18_one : zero18.toArray.all (·.oneCell') = true := all_oneCell_toArray (by unfold zero18; decide)
theorem fr_sc (b : Nat) : ∀ (vs : List Value) (o : Nat) (u : World) (a : Addr), (u.setCells b o vs).frozen? a = u.frozen? a
 | [], _, _, _ => rfl
 | v :: r, o, u, a => by rw [World.setCells, fr_sc b r]; go_simp
def vals18 (p s c l : Int) (st sk re fe ag : Bool) (n1 b1 e1 b2 e2 : Nat) (sp : Int) (v1 v2 : Value) (h1 d1 h2 d2 : Nat) (pl rg : Int) : List Value := [.int .i64 p, .int .i64 s, .bool st, .bool sk, .bool re, .bool fe, .bool ag, .int .i64 c, .int .i64 l, .slice (some ⟨b1, 0, none⟩) n1 e1, .slice (some ⟨b2, 0, none⟩) 2 e2, .int .i64 sp, v1, .slice (some ⟨h1, 0, none⟩) n1 d1, .slice (some ⟨h2, 0, none⟩) 2 d2, .int .i64 pl, .int .i64 rg, v2]
def RpB (w : World) (Jp Js Jc Jl : Int) (Jst Jsk Jre Jfe Jag : Bool) (Ja1 Ja2 : Option Addr) (Jan1 Jac1 Jan2 Jac2 : Nat) (Jap : Int) (Jm : Option Addr) (Jmn Jmc : Nat) (Jb1 Jb2 : Option Addr) (Jbn1 Jbc1 Jbn2 Jbc2 : Nat) (Jbp Jrg : Int) (u : World) : Prop := GmAt u w.heap.size Jp Js Jc Jl Jst Jsk Jre Jfe Jag Ja1 Ja2 Jan1 Jac1 Jan2 Jac2 Jap Jm Jmn Jmc Jb1 Jb2 Jbn1 Jbc1 Jbn2 Jbc2 Jbp Jrg ∧ Th18 u (w.heap.size + 1) ∧ Below w.heap.size w u
theorem RpB.below {w u v : World} {Jp Js Jc Jl : Int} {Jst Jsk Jre Jfe Jag : Bool} {Ja1 Ja2 : Option Addr} {Jan1 Jac1 Jan2 Jac2 : Nat} {Jap : Int} {Jm : Option Addr} {Jmn Jmc : Nat} {Jb1 Jb2 : Option Addr} {Jbn1 Jbc1 Jbn2 Jbc2 : Nat} {Jbp Jrg : Int} (h : RpB w Jp Js Jc Jl Jst Jsk Jre Jfe Jag Ja1 Ja2 Jan1 Jac1 Jan2 Jac2 Jap Jm Jmn Jmc Jb1 Jb2 Jbn1 Jbc1 Jbn2 Jbc2 Jbp Jrg u) (k : Below u.heap.size u v) : RpB w Jp Js Jc Jl Jst Jsk Jre Jfe Jag Ja1 Ja2 Jan1 Jac1 Jan2 Jac2 Jap Jm Jmn Jmc Jb1 Jb2 Jbn1 Jbc1 Jbn2 Jbc2 Jbp Jrg v := ⟨h.1.below k, h.2.1.below k, h.2.2.trans (k.mono h.2.2.size)⟩
theorem rpb_new (Jp Js Jc Jl : Int) (Jst Jsk Jre Jfe Jag : Bool) (Ja1 Ja2 : Option Addr) (Jan1 Jac1 Jan2 Jac2 : Nat) (Jap : Int) (Jm : Option Addr) (Jmn Jmc : Nat) (Jb1 Jb2 : Option Addr) (Jbn1 Jbc1 Jbn2 Jbc2 : Nat) (Jbp Jrg : Int) (w : World) (T U : TypeId) : RpB w Jp Js Jc Jl Jst Jsk Jre Jfe Jag Ja1 Ja2 Jan1 Jac1 Jan2 Jac2 Jap Jm Jmn Jmc Jb1 Jb2 Jbn1 Jbc1 Jbn2 Jbc2 Jbp Jrg ((w.alloc (.cells #[.int .i64 Jp, .int .i64 Js, .bool Jst, .bool Jsk, .bool Jre, .bool Jfe, .bool Jag, .int .i64 Jc, .int .i64 Jl, .slice Ja1 Jan1 Jac1, .slice Ja2 Jan2 Jac2, .int .i64 Jap, .slice Jm Jmn Jmc, .slice Jb1 Jbn1 Jbc1, .slice Jb2 Jbn2 Jbc2, .int .i64 Jbp, .int .i64 Jrg] T)).alloc (.cells #[.int .i64 0, .int .i64 0, .bool false, .bool false, .bool false, .bool false, .bool false, .int .i64 0, .int .i64 0, .slice none 0 0, .slice none 0 0, .int .i64 0, .slice none 0 0, .slice none 0 0, .slice none 0 0, .int .i64 0, .int .i64 0, .slice none 0 0] U)) := by
 have h := there18 (w.alloc (.cells #[.int .i64 Jp, .int .i64 Js, .bool Jst, .bool Jsk, .bool Jre, .bool Jfe, .bool Jag, .int .i64 Jc, .int .i64 Jl, .slice Ja1 Jan1 Jac1, .slice Ja2 Jan2 Jac2, .int .i64 Jap, .slice Jm Jmn Jmc, .slice Jb1 Jbn1 Jbc1, .slice Jb2 Jbn2 Jbc2, .int .i64 Jbp, .int .i64 Jrg] T)) U
 rw [World.size_alloc] at h
 exact ⟨(gm_new Jp Js Jc Jl Jst Jsk Jre Jfe Jag Ja1 Ja2 Jan1 Jac1 Jan2 Jac2 Jap Jm Jmn Jmc Jb1 Jb2 Jbn1 Jbc1 Jbn2 Jbc2 Jbp Jrg w T).below (al1 _ _), ⟨by simp, h⟩, ((Below.refl _ _).alloc (Nat.le_refl _) _).alloc (by simp) _⟩
theorem plk_start {w v : World} {p s c l : Int} {st sk re fe ag : Bool} {n1 g1 c1 g2 c2 g4 c4 g5 c5 : Nat} {sp : Int} {sx sy : List Int} (T : TypeId) (h : NewR w v g1 g2 g4 g5 n1 2 sx sy) (k1 : n1 ≤ c1) (k2 : 2 ≤ c2) (k4 : n1 ≤ c4) (k5 : 2 ≤ c5) (X : World) (hX : X = (v.alloc (.cells #[.int .i64 0, .int .i64 0, .bool false, .bool false, .bool false, .bool false, .bool false, .int .i64 0, .int .i64 0, .slice none 0 0, .slice none 0 0, .int .i64 0, .slice none 0 0, .slice none 0 0, .slice none 0 0, .int .i64 0, .int .i64 0, .slice none 0 0] T)).setCells v.heap.size 0 (vals18 p s c l st sk re fe ag n1 g1 c1 g2 c2 sp (.slice none 0 0) (.slice none 0 0) g4 c4 g5 c5 sp (-1))) :
  PlK w v.heap.size p s c l st sk re fe ag n1 g1 c1 g2 c2 sp sx sy (.slice none 0 0) (.slice none 0 0) [] [] g4 c4 g5 c5 ⟨sp, sx, sy⟩ (-1) [(g1, sx), (g2, sy), (g4, sx), (g5, sy)] X := by
 have hr := World.rangeAt_setCells_same (v.alloc (.cells #[.int .i64 0, .int .i64 0, .bool false, .bool false, .bool false, .bool false, .bool false, .int .i64 0, .int .i64 0, .slice none 0 0, .slice none 0 0, .int .i64 0, .slice none 0 0, .slice none 0 0, .slice none 0 0, .int .i64 0, .int .i64 0, .slice none 0 0] T)) v.heap.size 0 (vals18 p s c l st sk re fe ag n1 g1 c1 g2 c2 sp (.slice none 0 0) (.slice none 0 0) g4 c4 g5 c5 sp (-1)) (there18 v T)
 rw [← hX] at hr
 have hbe : Below v.heap.size v X := by rw [hX]; exact below_scg v.heap.size (Nat.le_refl _) _ 0 (al1 v _)
 have hsz : X.heap.size = v.heap.size + 1 := by rw [hX, size_scg]; simp
 have hfr : ∀ o, X.frozen? ⟨v.heap.size, o, none⟩ = false := fun o => by rw [hX, fr_sc]; go_simp
 have hs := h.be.size
 have a1 := h.l1
 have a2 := h.l2
 have a4 := h.l4
 have a5 := h.l5
 refine ⟨⟨by omega, hr 0 _ rfl, hr 1 _ rfl, hr 2 _ rfl, hr 3 _ rfl, hr 4 _ rfl, hr 5 _ rfl, hr 6 _ rfl, hr 7 _ rfl, hr 8 _ rfl, hr 9 _ rfl, hr 10 _ rfl, hr 11 _ rfl, hr 12 _ rfl, hr 13 _ rfl, hr 14 _ rfl, hr 15 _ rfl, hr 16 _ rfl, hfr⟩, hr 17 _ rfl, World.ownsRow_nil _ _ _ _, World.ownsRow_nil _ _ _ _, fun y hy => ?_, (fun i j hi => by cases hi), (fun i hi => by cases hi), (fun i hi => by cases hi), (fun x hx => by cases hx), .head _, .tail _ (.head _), .tail _ (.tail _ (.head _)), .tail _ (.tail _ (.tail _ (.head _))), ⟨h.n14, h.n15, h.n24, h.n25, h.s.ne, h.n.ne⟩, h.s.l1, h.s.l2, h.s.l1, h.s.l2, k1, k2, k4, k5, hs, h.be.trans (hbe.mono hs)⟩
 have hc : ∀ i, (Value.slice none 0 0).ownBlock = some i → i ≠ y.1 := fun i hi => by cases hi
 simp only [List.mem_cons, List.not_mem_nil, or_false] at hy
 rcases hy with rfl | rfl | rfl | rfl
 ·exact ⟨h.s.o1.below hbe, by simp only; omega, by simp only; omega, hc, hc⟩
 ·exact ⟨h.s.o2.below hbe, by simp only; omega, by simp only; omega, hc, hc⟩
 ·exact ⟨h.n.o1.below hbe, by simp only; omega, by simp only; omega, hc, hc⟩
 ·exact ⟨h.n.o2.below hbe, by simp only; omega, by simp only; omega, hc, hc⟩
def RpP (p s c l : Int) (st sk re fe ag : Bool) (n1 : Nat) (sp : Int) (sx sy ms : List Int) (rg : Int) (ok : Bool) (w : World) (e : Ending) (w' : World) : Prop :=
 if ok = true then
  ∃ pb b1 e1 b2 e2 v1 v2 L h1 d1 h2 d2 q R rs, e = .returned (.tuple #[.agg (vals18 p s c l st sk re fe ag n1 b1 e1 b2 e2 sp v1 v2 h1 d1 h2 d2 q.pl rg).toArray, .int .i64 0]) ∧ PlK w pb p s c l st sk re fe ag n1 b1 e1 b2 e2 sp sx sy v1 v2 ms L h1 d1 h2 d2 q rg R w' ∧
   runO (stp p c l st sk re fe ag) ⟨sp, sx, sy⟩ ms = some rs ∧ q = lastP ⟨sp, sx, sy⟩ rs ∧ L.map (fun x => x.1.r) = rs ∧ L.map (fun x => x.1.q) ++ [q] = ⟨sp, sx, sy⟩ :: rs.map R7.ps
 else e = .returned (.tuple #[.agg zero18.toArray, .int .i64 1]) ∧ Below w.heap.size w w'
def RpJ (w : World) (pb : Nat) (p s c l : Int) (st sk re fe ag : Bool) (n1 b1 e1 b2 e2 : Nat) (sp : Int) (sx sy ms : List Int) (k : Nat) (u : World) : Prop :=
 ∃ v1 v2 L h1 d1 h2 d2 R rs, PlK w pb p s c l st sk re fe ag n1 b1 e1 b2 e2 sp sx sy v1 v2 (ms.take k) L h1 d1 h2 d2 (lastP ⟨sp, sx, sy⟩ rs) (-1) R u ∧ runO (stp p c l st sk re fe ag) ⟨sp, sx, sy⟩ (ms.take k) = some rs ∧ L.length = k ∧ k ≤ 120 ∧ L.map (fun x => x.1.r) = rs ∧ L.map (fun x => x.1.q) ++ [lastP ⟨sp, sx, sy⟩ rs] = ⟨sp, sx, sy⟩ :: rs.map R7.ps
theorem vals18_one (p s c l : Int) (st sk re fe ag : Bool) (n1 b1 e1 b2 e2 : Nat) (sp : Int) (va : Option Addr) (vn vc : Nat) (ta : Option Addr) (tn tc : Nat) (h1 d1 h2 d2 : Nat) (pl rg : Int) : (vals18 p s c l st sk re fe ag n1 b1 e1 b2 e2 sp (.slice va vn vc) (.slice ta tn tc) h1 d1 h2 d2 pl rg).toArray.all (·.oneCell') = true :=
 all_oneCell_toArray (by unfold vals18; intro v hv; simp only [List.mem_cons, List.not_mem_nil, or_false] at hv; rcases hv with rfl | rfl | rfl | rfl | rfl | rfl | rfl | rfl | rfl | rfl | rfl | rfl | rfl | rfl | rfl | rfl | rfl | rfl <;> rfl)
theorem PlK.rg18 {w u : World} {pb : Nat} {p s c l : Int} {st sk re fe ag : Bool} {n1 b1 e1 b2 e2 : Nat} {sp : Int} {sx sy : List Int} {v1 v2 : Value} {ms : List Int} {L : List (T21 × Q21)} {h1 d1 h2 d2 : Nat} {q : Ps} {rg : Int} {R : List (Nat × List Int)} (h : PlK w pb p s c l st sk re fe ag n1 b1 e1 b2 e2 sp sx sy v1 v2 ms L h1 d1 h2 d2 q rg R u) : u.rangeAt pb 0 (vals18 p s c l st sk re fe ag n1 b1 e1 b2 e2 sp v1 v2 h1 d1 h2 d2 q.pl rg) := by
 intro j v hj
 match j, hj with
 | 0, hj => cases hj; exact h.g.c0
 | 1, hj => cases hj; exact h.g.c1
 | 2, hj => cases hj; exact h.g.c2
 | 3, hj => cases hj; exact h.g.c3
 | 4, hj => cases hj; exact h.g.c4
 | 5, hj => cases hj; exact h.g.c5
 | 6, hj => cases hj; exact h.g.c6
 | 7, hj => cases hj; exact h.g.c7
 | 8, hj => cases hj; exact h.g.c8
 | 9, hj => cases hj; exact h.g.c9
 | 10, hj => cases hj; exact h.g.c10
 | 11, hj => cases hj; exact h.g.c11
 | 12, hj => cases hj; exact h.g.c12
 | 13, hj => cases hj; exact h.g.c13
 | 14, hj => cases hj; exact h.g.c14
 | 15, hj => cases hj; exact h.g.c15
 | 16, hj => cases hj; exact h.g.c16
 | 17, hj => cases hj; exact h.tv
 | n + 18, hj => simp [vals18] at hj
theorem replay_any (Jp Js Jc Jl : Int) (Jst Jsk Jre Jfe Jag : Bool) (Ja1 Ja2 : Option Addr) (Jan1 Jac1 Jan2 Jac2 : Nat) (Jap : Int) (Jm : Option Addr) (Jmn Jmc : Nat) (Jb1 Jb2 : Option Addr) (Jbn1 Jbc1 Jbn2 Jbc2 : Nat) (Jbp Jrg : Int) (sx sy ms nx ny : List Int) (w : World) (h : GamR w Ja1 Ja2 Jan1 Jan2 Jm Jmn Jb1 Jb2 Jbn1 Jbn2 sx sy ms nx ny) :
  Calls Try.prog 34 #[.agg #[.int .i64 Jp, .int .i64 Js, .bool Jst, .bool Jsk, .bool Jre, .bool Jfe, .bool Jag, .int .i64 Jc, .int .i64 Jl, .slice Ja1 Jan1 Jac1, .slice Ja2 Jan2 Jac2, .int .i64 Jap, .slice Jm Jmn Jmc, .slice Jb1 Jbn1 Jbc1, .slice Jb2 Jbn2 Jbc2, .int .i64 Jbp, .int .i64 Jrg]] w (RpP Jp Js Jc Jl Jst Jsk Jre Jfe Jag Jan1 Jap sx sy ms Jrg (okG Jp Js Jc Jl Jst Jsk Jre Jfe Jag Jan1 Jan2 Jap sx sy ms Jbp nx ny Jrg) w) := by
 have HB := Lib.hid (rpb_new Jp Js Jc Jl Jst Jsk Jre Jfe Jag Ja1 Ja2 Jan1 Jac1 Jan2 Jac2 Jap Jm Jmn Jmc Jb1 Jb2 Jbn1 Jbc1 Jbn2 Jbc2 Jbp Jrg w 34 58)
 have H := Lib.hid h
 obtain ⟨okS, hokS⟩ : ∃ b, b = (okP (okR Jp Js Jc Jl Jst Jag) Jp Jan1 Jan2 Jap sx sy && (decide (-1 ≤ Jrg) && decide (Jrg ≤ 1))) := ⟨_, rfl⟩
 have HokS := Lib.hid hokS
 clear h hokS
 go_enter Try.func34, Try.ntmps34
 go_upto_region 1 with fail
 generalize (w.alloc (.cells #[.int .i64 Jp, .int .i64 Js, .bool Jst, .bool Jsk, .bool Jre, .bool Jfe, .bool Jag, .int .i64 Jc, .int .i64 Jl, .slice Ja1 Jan1 Jac1, .slice Ja2 Jan2 Jac2, .int .i64 Jap, .slice Jm Jmn Jmc, .slice Jb1 Jbn1 Jbc1, .slice Jb2 Jbn2 Jbc2, .int .i64 Jbp, .int .i64 Jrg] 34)).alloc (.cells #[.int .i64 0, .int .i64 0, .bool false, .bool false, .bool false, .bool false, .bool false, .int .i64 0, .int .i64 0, .slice none 0 0, .slice none 0 0, .int .i64 0, .slice none 0 0, .slice none 0 0, .slice none 0 0, .int .i64 0, .int .i64 0, .slice none 0 0] 58) = U at *
 go_cut [22] (fun s22 wx => s22 = .bool (!okS) ∧ RpB w Jp Js Jc Jl Jst Jsk Jre Jfe Jag Ja1 Ja2 Jan1 Jac1 Jan2 Jac2 Jap Jm Jmn Jmc Jb1 Jb2 Jbn1 Jbc1 Jbn2 Jbc2 Jbp Jrg wx)
 case first =>
  obtain ⟨hgb, m0, m1, m2, m3, m4, m5, m6, m7, m8, m9, m10, m11, m12, m13, m14, m15, m16⟩ := HB.out.1
  rcases hk : okP (okR Jp Js Jc Jl Jst Jag) Jp Jan1 Jan2 Jap sx sy with _ | _
  ·have Hk := Lib.hid hk
   have HokS2 : Hid (okS = false) := Lib.hid (by rw [HokS.out, hk]; rfl)
   clear hk
   go_wp2_with fail
   refine (implValid_b Jp Js Jc Jl Jst Jsk Jre Jfe Jag Ja1 Ja2 Jan1 Jac1 Jan2 Jac2 Jap sx sy _ (H.out.s.below HB.out.2.2) _ Hk.out).mono ?_
   rintro e u5 ⟨rfl, hb⟩
   have HB := Lib.hid (HB.out.below hb)
   clear hb m0 m1 m2 m3 m4 m5 m6 m7 m8 m9 m10 m11 m12 m13 m14 m15 m16
   go_wp2_with fail
   go_meet
   exact ⟨by rw [HokS2.out]; rfl, HB.out⟩
  ·have Hk := Lib.hid hk
   by_cases hrg : Jrg = -1
   ·have HokS2 : Hid (okS = true) := Lib.hid (by rw [HokS.out, hk, hrg]; rfl)
    have Hrg := Lib.hid hrg
    clear hk hrg
    go_wp2_with fail
    refine (implValid_b Jp Js Jc Jl Jst Jsk Jre Jfe Jag Ja1 Ja2 Jan1 Jac1 Jan2 Jac2 Jap sx sy _ (H.out.s.below HB.out.2.2) _ Hk.out).mono ?_
    rintro e u5 ⟨rfl, hb⟩
    have HB := Lib.hid (HB.out.below hb)
    have HRg := Lib.hid (GmAt.range HB.out.1)
    clear hb m0 m1 m2 m3 m4 m5 m6 m7 m8 m9 m10 m11 m12 m13 m14 m15 m16
    go_wp2_with (refine wpList_load_want (by rfl) 34 _ rfl w.heap.size 0 rfl _ _ HRg.out Try.underlying34 rfl (by kernel_rfl) ?_)
    refine (hasR_no Jp Js Jc Jl Jst Jsk Jre Jfe Jag Ja1 Ja2 Jan1 Jac1 Jan2 Jac2 Jap Jm Jmn Jmc Jb1 Jb2 Jbn1 Jbc1 Jbn2 Jbc2 Jbp Jrg _ Hrg.out).mono ?_
    rintro e u6 ⟨rfl, hb⟩
    have HB := Lib.hid (HB.out.below hb)
    clear hb
    go_wp2_with fail
    go_meet
    exact ⟨by rw [HokS2.out]; rfl, HB.out⟩
   ·have Hrg := Lib.hid hrg
    obtain ⟨j, hj⟩ : ∃ j, (decide (0 ≤ Jrg) && decide (Jrg ≤ 1)) = j := ⟨_, rfl⟩
    have Hj := Lib.hid hj
    have HokS2 : Hid (okS = j) := Lib.hid (by
     rw [HokS.out, hk, ← hj, Bool.true_and]
     congr 1
     by_cases h0 : 0 ≤ Jrg
     ·rw [decide_eq_true h0, decide_eq_true (by omega)]
     ·rw [decide_eq_false h0, decide_eq_false (by omega)])
    clear hk hrg hj
    go_wp2_with fail
    refine (implValid_b Jp Js Jc Jl Jst Jsk Jre Jfe Jag Ja1 Ja2 Jan1 Jac1 Jan2 Jac2 Jap sx sy _ (H.out.s.below HB.out.2.2) _ Hk.out).mono ?_
    rintro e u5 ⟨rfl, hb⟩
    have HB := Lib.hid (HB.out.below hb)
    have HRg := Lib.hid (GmAt.range HB.out.1)
    clear hb m0 m1 m2 m3 m4 m5 m6 m7 m8 m9 m10 m11 m12 m13 m14 m15 m16
    go_wp2_with (refine wpList_load_want (by rfl) 34 _ rfl w.heap.size 0 rfl _ _ HRg.out Try.underlying34 rfl (by kernel_rfl) ?_)
    refine (hasR_yes Jp Js Jc Jl Jst Jsk Jre Jfe Jag Ja1 Ja2 Jan1 Jac1 Jan2 Jac2 Jap Jm Jmn Jmc Jb1 Jb2 Jbn1 Jbc1 Jbn2 Jbc2 Jbp Jrg _ Hrg.out).mono ?_
    rintro e u6 ⟨rfl, hb⟩
    have HB := Lib.hid (HB.out.below hb)
    obtain ⟨-, -, -, -, -, -, -, -, -, -, -, -, -, -, -, -, -, m16⟩ := HB.out.1
    clear hb
    go_wp2_with fail
    refine (isPlayer_b Jrg _ Hj.out _).mono ?_
    rintro e u7 ⟨rfl, rfl⟩
    cases j
    ·go_wp2_with fail
     go_meet
     exact ⟨by rw [HokS2.out]; rfl, HB.out⟩
    ·go_wp2_with fail
     go_meet
     exact ⟨by rw [HokS2.out]; rfl, HB.out⟩
 case rest =>
  obtain ⟨rfl, hB⟩ := hcut
  have HB := Lib.hid hB
  clear hB
  rcases okS with _ | _
  ·have HokN : Hid (okG Jp Js Jc Jl Jst Jsk Jre Jfe Jag Jan1 Jan2 Jap sx sy ms Jbp nx ny Jrg = false) := Lib.hid (by
    have h1 := HokS.out
    unfold okG
    generalize (decide (-1 ≤ Jrg) && decide (Jrg ≤ 1)) = b1 at *
    generalize okP (okR Jp Js Jc Jl Jst Jag) Jp Jan1 Jan2 Jap sx sy = b2 at *
    have h2 : (b2 && b1) = false := h1.symm
    cases b2
    ·rfl
    ·rw [Bool.true_and] at h2
     rw [h2, Bool.and_false, Bool.false_and])
   go_wp2_with (refine wpList_store_mid rfl 58 _ _ rfl (w.heap.size + 1) 0 zero18.toArray rfl rfl HB.out.2.1.th (by kernel_rfl) zero18_one ?_)
   have hrun := run_loadVar_mid (P := Try.prog) _ (w.heap.size + 1) 0 58 zero18 _ (World.rangeAt_setCells_same _ (w.heap.size + 1) 0 zero18 HB.out.2.1.th) Try.underlying58 rfl (by kernel_rfl)
   refine bodyPost_ret (v := .tuple #[.agg zero18.toArray, .int .i64 1]) ?_ rfl ?_
   ·simp [results, Try.results34, Result.andThen_ok, asAddr, hrun]
   ·unfold RpP
    rw [HokN.out, if_neg (by decide)]
    exact ⟨rfl, below_scg (w.heap.size + 1) (by omega) _ 0 HB.out.2.2⟩
  ·obtain ⟨hk, hrg⟩ : okP (okR Jp Js Jc Jl Jst Jag) Jp Jan1 Jan2 Jap sx sy = true ∧ (decide (-1 ≤ Jrg) && decide (Jrg ≤ 1)) = true := by
    have h1 := HokS.out.symm
    simpa only [Bool.and_eq_true] using h1
   obtain ⟨okr, ok2, e2, -, -⟩ := okP_parts hk
   subst e2
   have hp2 := (okR_bd okr).1
   have ne1 : sx ≠ [] := by intro e; have h1 := H.out.s.l1; rw [e] at h1; simp at h1; omega
   have ne2 : sy ≠ [] := by intro e; have h1 := H.out.s.l2; rw [e] at h1; simp at h1
   have HOk : Hid (OkQ Jp Js Jc Jl Jst Jag Jan1 (⟨Jap, sx, sy⟩ : Ps)) := Lib.hid ⟨hk, H.out.s.l1, H.out.s.l2⟩
   have HG1 : Hid (okG Jp Js Jc Jl Jst Jsk Jre Jfe Jag Jan1 2 Jap sx sy ms Jbp nx ny Jrg = (decide (ms.length ≤ 120) && runB (stp Jp Jc Jl Jst Jsk Jre Jfe Jag) (⟨Jap, sx, sy⟩ : Ps) ms Jbp nx ny)) := Lib.hid (by unfold okG; rw [hk, hrg, Bool.true_and, Bool.and_true])
   have NE := Lib.hid (And.intro ne1 ne2)
   clear HokS hk hrg okr ok2 hp2 ne1 ne2
   obtain ⟨hgb, m0, m1, m2, m3, m4, m5, m6, m7, m8, m9, m10, m11, -⟩ := HB.out.1
   obtain ⟨wb, hwb⟩ : ∃ wb, wb = wc := ⟨_, rfl⟩
   go_wp2_with fail
   refine (beginPlayC_any Jp Js Jc Jl Jst Jsk Jre Jfe Jag Ja1 Ja2 Jan1 Jac1 2 Jac2 Jap sx sy _ (H.out.s.below HB.out.2.2) NE.out.1 NE.out.2).mono ?_
   rintro e u1 ⟨g1, c1, g2, c2, g4, c4, g5, c5, rfl, hN, k1, k2, k4, k5⟩
   clear m0 m1 m2 m3 m4 m5 m6 m7 m8 m9 m10 m11 hgb
   rw [← hwb] at hN
   rw [← hwb] at HB
   clear hwb
   go_upto_region 4 with (refine wpList_store_mid rfl 58 _ _ rfl u1.heap.size 0 (vals18 Jp Js Jc Jl Jst Jsk Jre Jfe Jag Jan1 g1 c1 g2 c2 Jap (.slice none 0 0) (.slice none 0 0) g4 c4 g5 c5 Jap (-1)).toArray rfl rfl (there18 u1 58) (by kernel_rfl) (all_oneCell_toArray (by unfold vals18; intro v hv; simp only [List.mem_cons, List.not_mem_nil, or_false] at hv; rcases hv with rfl | rfl | rfl | rfl | rfl | rfl | rfl | rfl | rfl | rfl | rfl | rfl | rfl | rfl | rfl | rfl | rfl | rfl <;> rfl)) ?_)
   generalize hX : ((u1.alloc (.cells #[.int .i64 0, .int .i64 0, .bool false, .bool false, .bool false, .bool false, .bool false, .int .i64 0, .int .i64 0, .slice none 0 0, .slice none 0 0, .int .i64 0, .slice none 0 0, .slice none 0 0, .slice none 0 0, .int .i64 0, .int .i64 0, .slice none 0 0] 58)).setCells u1.heap.size 0 (vals18 Jp Js Jc Jl Jst Jsk Jre Jfe Jag Jan1 g1 c1 g2 c2 Jap (.slice none 0 0) (.slice none 0 0) g4 c4 g5 c5 Jap (-1))) = X at *
   have HP0 := Lib.hid (plk_start 58 hN k1 k2 k4 k5 X hX.symm)
   have HBX := Lib.hid (HB.out.below HP0.out.be)
   have m12 := HBX.out.1.2.2.2.2.2.2.2.2.2.2.2.2.2.1
   clear hX hN
   generalize u1.heap.size = pb at *
   go_wp2_with fail
   go_loopw [32] (fun i wr => ∃ k : Nat, i = .int .i64 k ∧ k ≤ Jmn ∧ RpJ wb pb Jp Js Jc Jl Jst Jsk Jre Jfe Jag Jan1 g1 c1 g2 c2 Jap sx sy ms k wr) (fun i _ => Jmn - (intOf i).toNat)
   case atStart => exact ⟨0, rfl, Nat.zero_le _, _, _, [], _, _, _, _, _, [], HP0.out, rfl, rfl, by omega, rfl, rfl⟩
   case round =>
    clear HP0 HBX m12
    obtain ⟨k, rfl, hkn, v1, v2, L, h1, d1, h2, d2, R, rs, hP, hrun, hLk, hk120, hLr, hLq⟩ := hrel
    have HP := Lib.hid hP
    have HRun := Lib.hid (And.intro hrun (And.intro hLk (And.intro hLr hLq)))
    have HBr := Lib.hid (HB.out.below hP.be)
    have Hlm := Lib.hid H.out.lm
    clear hP hrun hLr hLq hLk
    by_cases hlt : k < Jmn
    ·obtain ⟨m, hm⟩ : ∃ m, ms[k]? = some m := ⟨ms[k]'(by rw [Hlm.out]; exact hlt), List.getElem?_eq_getElem _⟩
     have hne : ms ≠ [] := by intro e; subst e; cases hm
     obtain ⟨ga, oa, hga, hgl, hca⟩ := (H.out.m.below HBr.out.2.2).2.resolve_left hne
     have y1 := hca k _ hm
     subst hga
     have HMk := Lib.hid hm
     have k0 : (0 : Int) ≤ (k : Int) := by omega
     have kq : (k : Int) < (Jmn : Int) := by omega
     have htl : (ms.take k).length = k := by rw [List.length_take, Hlm.out]; omega
     have Htl := Lib.hid htl
     clear hm hne hgl hca htl
     by_cases hfull : k = 120
     ·have HM := Lib.hid (pmove_full wb pb Jp Js Jc Jl Jst Jsk Jre Jfe Jag Jan1 g1 c1 g2 c2 Jap sx sy v1 v2 (ms.take k) L h1 d1 h2 d2 (lastP (⟨Jap, sx, sy⟩ : Ps) rs) R m wr HP.out (Htl.out.trans hfull))
      have HokN : Hid (okG Jp Js Jc Jl Jst Jsk Jre Jfe Jag Jan1 2 Jap sx sy ms Jbp nx ny Jrg = false) := Lib.hid (by rw [HG1.out, decide_eq_false (show ¬ ms.length ≤ 120 by have := Hlm.out; omega)]; rfl)
      clear hfull
      go_wp2_with fail
      refine HM.out.mono ?_
      rintro e w6 ⟨rfl, hb⟩
      have HBr := Lib.hid (HBr.out.below hb)
      clear hb y1
      go_wp2_with (refine wpList_store_mid rfl 58 _ _ rfl (w.heap.size + 1) 0 zero18.toArray rfl rfl HBr.out.2.1.th (by kernel_rfl) zero18_one ?_)
      have hrun := run_loadVar_mid (P := Try.prog) _ (w.heap.size + 1) 0 58 zero18 _ (World.rangeAt_setCells_same _ (w.heap.size + 1) 0 zero18 HBr.out.2.1.th) Try.underlying58 rfl (by kernel_rfl)
      refine bodyPost_ret (v := .tuple #[.agg zero18.toArray, .int .i64 1]) ?_ rfl ?_
      ·simp [results, Try.results34, Result.andThen_ok, asAddr, hrun]
      ·unfold RpP
       rw [HokN.out, if_neg (by decide)]
       exact ⟨rfl, below_scg (w.heap.size + 1) (by omega) _ 0 HBr.out.2.2⟩
     ·have hk2 : k < 120 := by omega
      have hok := run_ok HOk.out HRun.out.1
      have HM := Lib.hid (pmove_any wb pb Jp Js Jc Jl Jst Jsk Jre Jfe Jag Jan1 g1 c1 g2 c2 Jap sx sy v1 v2 (ms.take k) L h1 d1 h2 d2 (lastP (⟨Jap, sx, sy⟩ : Ps) rs) R m wr HP.out hok (by have := Htl.out; omega) (by have := Htl.out; have := HRun.out.2.1; omega))
      cases hl : lgV Jc Jl Jp (lastP (⟨Jap, sx, sy⟩ : Ps) rs).pl Jfe (lastP (⟨Jap, sx, sy⟩ : Ps) rs).xs (mvV true Jp (lastP (⟨Jap, sx, sy⟩ : Ps) rs).pl Jst Jsk Jre (lastP (⟨Jap, sx, sy⟩ : Ps) rs).xs (lastP (⟨Jap, sx, sy⟩ : Ps) rs).ys m) with
      | none =>
       have hlv : lvS Jp Js Jc Jl Jst Jsk Jre Jfe Jag (lastP (⟨Jap, sx, sy⟩ : Ps) rs) m = none := by unfold lvS; rw [hl]; rfl
       have hst : stp Jp Jc Jl Jst Jsk Jre Jfe Jag (lastP (⟨Jap, sx, sy⟩ : Ps) rs) m = none := by unfold stp; rw [hl]; rfl
       have d : (cdS Jp Js Jc Jl Jst Jsk Jre Jfe Jag (lastP (⟨Jap, sx, sy⟩ : Ps) rs) m == 0) = false := lg_none hok.ok hok.l1 hl
       rw [hlv] at HM
       have HokN : Hid (okG Jp Js Jc Jl Jst Jsk Jre Jfe Jag Jan1 2 Jap sx sy ms Jbp nx ny Jrg = false) := Lib.hid (by rw [HG1.out]; unfold runB; rw [runO_no HMk.out HRun.out.1 hst, Bool.and_false])
       generalize cdS Jp Js Jc Jl Jst Jsk Jre Jfe Jag (lastP (⟨Jap, sx, sy⟩ : Ps) rs) m = cd at *
       clear hl hlv hst hok
       go_wp2_with fail
       refine HM.out.mono ?_
       rintro e w6 ⟨rfl, hb⟩
       have HBr := Lib.hid (HBr.out.below hb)
       clear hb y1
       go_wp2_with (refine wpList_store_mid rfl 58 _ _ rfl (w.heap.size + 1) 0 zero18.toArray rfl rfl HBr.out.2.1.th (by kernel_rfl) zero18_one ?_)
       have hrun := run_loadVar_mid (P := Try.prog) _ (w.heap.size + 1) 0 58 zero18 _ (World.rangeAt_setCells_same _ (w.heap.size + 1) 0 zero18 HBr.out.2.1.th) Try.underlying58 rfl (by kernel_rfl)
       refine bodyPost_ret (v := .tuple #[.agg zero18.toArray, .int .i64 1]) ?_ rfl ?_
       ·simp [results, Try.results34, Result.andThen_ok, asAddr, hrun]
       ·unfold RpP
        rw [HokN.out, if_neg (by decide)]
        exact ⟨rfl, below_scg (w.heap.size + 1) (by omega) _ 0 HBr.out.2.2⟩
      | some m7 =>
       have hlv : lvS Jp Js Jc Jl Jst Jsk Jre Jfe Jag (lastP (⟨Jap, sx, sy⟩ : Ps) rs) m = some (m7, r7V Jc Jl Jp (lastP (⟨Jap, sx, sy⟩ : Ps) rs).pl Jag (lastP (⟨Jap, sx, sy⟩ : Ps) rs).ys m m7) := by unfold lvS; rw [hl]; rfl
       have hst : stp Jp Jc Jl Jst Jsk Jre Jfe Jag (lastP (⟨Jap, sx, sy⟩ : Ps) rs) m = some (r7V Jc Jl Jp (lastP (⟨Jap, sx, sy⟩ : Ps) rs).pl Jag (lastP (⟨Jap, sx, sy⟩ : Ps) rs).ys m m7) := by unfold stp; rw [hl]; rfl
       rw [hlv] at HM
       generalize r7V Jc Jl Jp (lastP (⟨Jap, sx, sy⟩ : Ps) rs).pl Jag (lastP (⟨Jap, sx, sy⟩ : Ps) rs).ys m m7 = r at *
       have HYes := Lib.hid (runO_yes HMk.out HRun.out.1 hst)
       generalize cdS Jp Js Jc Jl Jst Jsk Jre Jfe Jag (lastP (⟨Jap, sx, sy⟩ : Ps) rs) m = cd at *
       clear hl hlv hst hok
       go_wp2_with fail
       refine HM.out.mono ?_
       rintro e w6 ⟨rfl, v1', v2', x, g1', c1', g2', c2', R', hP', hx⟩
       have HP' := Lib.hid hP'
       have HX := Lib.hid hx
       clear hP' hx y1
       go_wp2_with fail
       go_roundw
       case rel =>
        refine ⟨k + 1, by go_num, by omega, v1', v2', L ++ [x], g1', c1', g2', c2', R', rs ++ [r], ?_, HYes.out, by rw [List.length_append, HRun.out.2.1]; rfl, by omega, ?_, ?_⟩
        ·rw [take_next HMk.out, lastP_snoc]
         exact HP'.out
        ·rw [List.map_append, HRun.out.2.2.1]
         simp [HX.out]
        ·rw [List.map_append, lastP_snoc, List.map_append, ← List.cons_append, ← HRun.out.2.2.2]
         simp [HX.out]
       case measure => simp [intOf]; omega
    ·obtain rfl : k = Jmn := by omega
     have hms : ms.take k = ms := List.take_of_length_le (Nat.le_of_eq Hlm.out)
     have hrun := HRun.out.1
     rw [hms] at hrun
     rw [hms] at HP
     have HSm := Lib.hid (implSame_any (some ⟨h1, 0, none⟩) (some ⟨h2, 0, none⟩) Jan1 d1 2 d2 (lastP (⟨Jap, sx, sy⟩ : Ps) rs).pl Jb1 Jb2 Jbn1 Jbc1 Jbn2 Jbc2 Jbp (lastP (⟨Jap, sx, sy⟩ : Ps) rs).xs (lastP (⟨Jap, sx, sy⟩ : Ps) rs).ys nx ny wr HP.out.nr (H.out.n.below HBr.out.2.2))
     have HOG : Hid (okG Jp Js Jc Jl Jst Jsk Jre Jfe Jag Jan1 2 Jap sx sy ms Jbp nx ny Jrg = sameB (lastP (⟨Jap, sx, sy⟩ : Ps) rs).xs nx (lastP (⟨Jap, sx, sy⟩ : Ps) rs).ys ny (lastP (⟨Jap, sx, sy⟩ : Ps) rs).pl Jbp) := Lib.hid (by
      rw [HG1.out, decide_eq_true (show ms.length ≤ 120 by have := Hlm.out; omega), Bool.true_and]
      unfold runB
      rw [hrun])
     have HRn := Lib.hid hrun
     have t13 := HP.out.g.c13
     have t14 := HP.out.g.c14
     have t15 := HP.out.g.c15
     obtain ⟨hgb, -, -, -, -, -, -, -, -, -, -, -, -, -, m13, m14, m15, m16⟩ := HBr.out.1
     generalize sameB (lastP (⟨Jap, sx, sy⟩ : Ps) rs).xs nx (lastP (⟨Jap, sx, sy⟩ : Ps) rs).ys ny (lastP (⟨Jap, sx, sy⟩ : Ps) rs).pl Jbp = sb at *
     clear hms hrun
     go_wp2_with fail
     refine HSm.out.mono ?_
     rintro e w6 ⟨rfl, hb⟩
     have HBr := Lib.hid (HBr.out.below hb)
     have HP := Lib.hid (HP.out.below hb)
     clear hb t13 t14 t15 m13 m14 m15
     cases sb
     ·have HokN := HOG
      clear m16
      go_wp2_with (refine wpList_store_mid rfl 58 _ _ rfl (w.heap.size + 1) 0 zero18.toArray rfl rfl HBr.out.2.1.th (by kernel_rfl) zero18_one ?_)
      have hrun := run_loadVar_mid (P := Try.prog) _ (w.heap.size + 1) 0 58 zero18 _ (World.rangeAt_setCells_same _ (w.heap.size + 1) 0 zero18 HBr.out.2.1.th) Try.underlying58 rfl (by kernel_rfl)
      refine bodyPost_ret (v := .tuple #[.agg zero18.toArray, .int .i64 1]) ?_ rfl ?_
      ·simp [results, Try.results34, Result.andThen_ok, asAddr, hrun]
      ·unfold RpP
       rw [HokN.out, if_neg (by decide)]
       exact ⟨rfl, below_scg (w.heap.size + 1) (by omega) _ 0 HBr.out.2.2⟩
     ·obtain ⟨-, -, -, -, -, -, -, -, -, -, -, -, -, -, -, -, -, m16⟩ := HBr.out.1
      have t16 := HP.out.g.c16
      have f16 := HP.out.g.fr 16
      have l16 := HP.out.g.lt
      go_upto_region 13 with fail
      have HP16 := Lib.hid (HP.out.setRg Jrg)
      clear HP m16 t16 f16 l16
      generalize w6.setCell ⟨pb, 16, none⟩ (.int .i64 Jrg) = W16 at *
      have HB16 := Lib.hid (HB.out.below HP16.out.be)
      obtain ⟨va, vc, hv1⟩ := slice_own HP16.out.mo
      obtain ⟨ta, tc, hv2⟩ := slice_own HP16.out.tu
      subst hv1
      subst hv2
      have HRgP := Lib.hid HP16.out.rg18
      have HOne := Lib.hid (vals18_one Jp Js Jc Jl Jst Jsk Jre Jfe Jag Jan1 g1 c1 g2 c2 Jap va ms.length vc ta L.length tc h1 d1 h2 d2 (lastP (⟨Jap, sx, sy⟩ : Ps) rs).pl Jrg)
      go_wp2_with (first | (refine wpList_load_mid rfl 58 _ rfl pb 0 rfl _ _ HRgP.out Try.underlying58 rfl (by kernel_rfl) ?_) | (refine wpList_store_mid rfl 58 _ _ rfl (w.heap.size + 1) 0 (vals18 Jp Js Jc Jl Jst Jsk Jre Jfe Jag Jan1 g1 c1 g2 c2 Jap (.slice va ms.length vc) (.slice ta L.length tc) h1 d1 h2 d2 (lastP (⟨Jap, sx, sy⟩ : Ps) rs).pl Jrg).toArray rfl rfl HB16.out.2.1.th (by kernel_rfl) HOne.out ?_))
      have hrun := run_loadVar_mid (P := Try.prog) _ (w.heap.size + 1) 0 58 (vals18 Jp Js Jc Jl Jst Jsk Jre Jfe Jag Jan1 g1 c1 g2 c2 Jap (.slice va ms.length vc) (.slice ta L.length tc) h1 d1 h2 d2 (lastP (⟨Jap, sx, sy⟩ : Ps) rs).pl Jrg) _ (World.rangeAt_setCells_same W16 (w.heap.size + 1) 0 _ HB16.out.2.1.th) Try.underlying58 rfl (by kernel_rfl)
      refine bodyPost_ret (v := .tuple #[.agg (vals18 Jp Js Jc Jl Jst Jsk Jre Jfe Jag Jan1 g1 c1 g2 c2 Jap (.slice va ms.length vc) (.slice ta L.length tc) h1 d1 h2 d2 (lastP (⟨Jap, sx, sy⟩ : Ps) rs).pl Jrg).toArray, .int .i64 0]) ?_ rfl ?_
      ·simp [results, Try.results34, Result.andThen_ok, asAddr, hrun]
      ·unfold RpP
       rw [HOG.out, if_pos rfl]
       exact ⟨pb, g1, c1, g2, c2, _, _, L, h1, d1, h2, d2, _, R, rs, rfl, HP16.out.leave HB.out.2.2 HB.out.2.1.lt (by omega) (but_scg (w.heap.size + 1) _ 0 (But.refl _ _)), HRn.out, rfl, HRun.out.2.2.1, HRun.out.2.2.2⟩
/- Vg8 -/
theorem gmb_new (Jp Js Jc Jl : Int) (Jst Jsk Jre Jfe Jag : Bool) (Ja1 Ja2 : Option Addr) (Jan1 Jac1 Jan2 Jac2 : Nat) (Jap : Int) (Jm : Option Addr) (Jmn Jmc : Nat) (Jb1 Jb2 : Option Addr) (Jbn1 Jbc1 Jbn2 Jbc2 : Nat) (Jbp Jrg : Int) (w : World) (T : TypeId) : GmB w w.heap.size Jp Js Jc Jl Jst Jsk Jre Jfe Jag Ja1 Ja2 Jan1 Jac1 Jan2 Jac2 Jap Jm Jmn Jmc Jb1 Jb2 Jbn1 Jbc1 Jbn2 Jbc2 Jbp Jrg (w.alloc (.cells #[.int .i64 Jp, .int .i64 Js, .bool Jst, .bool Jsk, .bool Jre, .bool Jfe, .bool Jag, .int .i64 Jc, .int .i64 Jl, .slice Ja1 Jan1 Jac1, .slice Ja2 Jan2 Jac2, .int .i64 Jap, .slice Jm Jmn Jmc, .slice Jb1 Jbn1 Jbc1, .slice Jb2 Jbn2 Jbc2, .int .i64 Jbp, .int .i64 Jrg] T)) := ⟨gm_new Jp Js Jc Jl Jst Jsk Jre Jfe Jag Ja1 Ja2 Jan1 Jac1 Jan2 Jac2 Jap Jm Jmn Jmc Jb1 Jb2 Jbn1 Jbc1 Jbn2 Jbc2 Jbp Jrg w T, al1 _ _⟩
def RpD (cd : Int) (w : World) (e : Ending) (w' : World) : Prop := ∃ cs : List Value, cs.length = 18 ∧ cs.toArray.all (·.oneCell') = true ∧ e = .returned (.tuple #[.agg cs.toArray, .int .i64 cd]) ∧ Below w.heap.size w w'
theorem RpP.d {p s c l : Int} {st sk re fe ag : Bool} {n1 : Nat} {sp : Int} {sx sy ms : List Int} {rg : Int} {ok : Bool} {w w' : World} {e : Ending} (h : RpP p s c l st sk re fe ag n1 sp sx sy ms rg ok w e w') : RpD (if ok then 0 else 1) w e w' := by
 unfold RpP at h
 cases ok
 ·rw [if_neg (by decide)] at h
  exact ⟨zero18, rfl, zero18_one, h.1, h.2⟩
 ·rw [if_pos rfl] at h
  obtain ⟨pb, b1, e1, b2, e2, v1, v2, L, h1, d1, h2, d2, q, R, rs, he, hP, -⟩ := h
  obtain ⟨va, vc, rfl⟩ := slice_own hP.mo
  obtain ⟨ta, tc, rfl⟩ := slice_own hP.tu
  exact ⟨_, rfl, vals18_one _ _ _ _ _ _ _ _ _ _ _ _ _ _ _ _ _ _ _ _ _ _ _ _ _ _ _, he, hP.be⟩
theorem OnW.of9 {w u v : World} (h : Below w.heap.size w u) (k : Below u.heap.size u v) : Below w.heap.size w v := h.trans (k.mono h.size)
theorem specVG_any (Jp Js Jc Jl : Int) (Jst Jsk Jre Jfe Jag : Bool) (Ja1 Ja2 : Option Addr) (Jan1 Jac1 Jan2 Jac2 : Nat) (Jap : Int) (Jm : Option Addr) (Jmn Jmc : Nat) (Jb1 Jb2 : Option Addr) (Jbn1 Jbc1 Jbn2 Jbc2 : Nat) (Jbp Jrg : Int) (sx sy ms nx ny : List Int) (w : World) (h : GamR w Ja1 Ja2 Jan1 Jan2 Jm Jmn Jb1 Jb2 Jbn1 Jbn2 sx sy ms nx ny) :
  Calls Try.prog 9 #[.agg #[.int .i64 Jp, .int .i64 Js, .bool Jst, .bool Jsk, .bool Jre, .bool Jfe, .bool Jag, .int .i64 Jc, .int .i64 Jl, .slice Ja1 Jan1 Jac1, .slice Ja2 Jan2 Jac2, .int .i64 Jap, .slice Jm Jmn Jmc, .slice Jb1 Jbn1 Jbc1, .slice Jb2 Jbn2 Jbc2, .int .i64 Jbp, .int .i64 Jrg]] w (BelP (.bool (okG Jp Js Jc Jl Jst Jsk Jre Jfe Jag Jan1 Jan2 Jap sx sy ms Jbp nx ny Jrg)) w) := by
 have HB := Lib.hid (gmb_new Jp Js Jc Jl Jst Jsk Jre Jfe Jag Ja1 Ja2 Jan1 Jac1 Jan2 Jac2 Jap Jm Jmn Jmc Jb1 Jb2 Jbn1 Jbc1 Jbn2 Jbc2 Jbp Jrg w 34)
 have HC := Lib.hid (l08Ok_any Jp Js Jc Jl Jst Jsk Jre Jfe Jag Ja1 Ja2 Jan1 Jac1 Jan2 Jac2 Jap Jm Jmn Jmc Jb1 Jb2 Jbn1 Jbc1 Jbn2 Jbc2 Jbp Jrg sx sy ms nx ny w.heap.size _ HB.out.1 (h.below HB.out.2))
 clear h
 go_enter Try.func9, Try.ntmps9
 go_wp2_with fail
 refine HC.out.mono ?_
 rintro e u ⟨rfl, hb⟩
 have HB := Lib.hid (HB.out.below hb)
 clear hb
 go_wp2_with fail
 go_ret
 exact ⟨rfl, HB.out.2⟩
theorem implVG_any (Jp Js Jc Jl : Int) (Jst Jsk Jre Jfe Jag : Bool) (Ja1 Ja2 : Option Addr) (Jan1 Jac1 Jan2 Jac2 : Nat) (Jap : Int) (Jm : Option Addr) (Jmn Jmc : Nat) (Jb1 Jb2 : Option Addr) (Jbn1 Jbc1 Jbn2 Jbc2 : Nat) (Jbp Jrg : Int) (sx sy ms nx ny : List Int) (w : World) (h : GamR w Ja1 Ja2 Jan1 Jan2 Jm Jmn Jb1 Jb2 Jbn1 Jbn2 sx sy ms nx ny) :
  Calls Try.prog 11 #[.agg #[.int .i64 Jp, .int .i64 Js, .bool Jst, .bool Jsk, .bool Jre, .bool Jfe, .bool Jag, .int .i64 Jc, .int .i64 Jl, .slice Ja1 Jan1 Jac1, .slice Ja2 Jan2 Jac2, .int .i64 Jap, .slice Jm Jmn Jmc, .slice Jb1 Jbn1 Jbc1, .slice Jb2 Jbn2 Jbc2, .int .i64 Jbp, .int .i64 Jrg]] w (BelP (.bool (okG Jp Js Jc Jl Jst Jsk Jre Jfe Jag Jan1 Jan2 Jap sx sy ms Jbp nx ny Jrg)) w) := by
 have HB := Lib.hid (gmb_new Jp Js Jc Jl Jst Jsk Jre Jfe Jag Ja1 Ja2 Jan1 Jac1 Jan2 Jac2 Jap Jm Jmn Jmc Jb1 Jb2 Jbn1 Jbc1 Jbn2 Jbc2 Jbp Jrg w 34)
 have HRg := Lib.hid (GmAt.range HB.out.1)
 have HC := Lib.hid (replay_any Jp Js Jc Jl Jst Jsk Jre Jfe Jag Ja1 Ja2 Jan1 Jac1 Jan2 Jac2 Jap Jm Jmn Jmc Jb1 Jb2 Jbn1 Jbc1 Jbn2 Jbc2 Jbp Jrg sx sy ms nx ny _ (h.below HB.out.2))
 generalize okG Jp Js Jc Jl Jst Jsk Jre Jfe Jag Jan1 Jan2 Jap sx sy ms Jbp nx ny Jrg = ok at *
 clear h
 go_enter Try.func11, Try.ntmps11
 go_wp2_with (refine wpList_load_mid rfl 34 _ rfl w.heap.size 0 rfl _ _ HRg.out Try.underlying34 rfl (by kernel_rfl) ?_)
 refine HC.out.mono ?_
 intro e u hq
 obtain ⟨cs, hc1, hc2, rfl, hb⟩ := hq.d
 have HCs := Lib.hid (And.intro hc1 hc2)
 have HB := Lib.hid (HB.out.below hb)
 clear hq hb hc1 hc2 HRg
 cases ok
 all_goals
  go_wp2_with (refine wpList_store_mid rfl 58 _ _ rfl u.heap.size 0 cs.toArray rfl rfl (by rw [show cs.toArray.size = 18 from by simpa using HCs.out.1]; exact there18 u 58) (by rw [show cs.toArray.size = 18 from by simpa using HCs.out.1]; kernel_rfl) HCs.out.2 ?_)
  go_ret
  exact ⟨rfl, OnW.of9 HB.out.2 (below_scg u.heap.size (Nat.le_refl _) cs 0 (al1 u _))⟩
end Go.Proofs.Ytmngmbpdiaocjaa
