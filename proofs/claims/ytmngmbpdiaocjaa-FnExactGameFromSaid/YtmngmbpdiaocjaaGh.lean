/- The walk of the law on GameFrom, over games as opaque lists of cells. No conditions. -/
import Derived.Test.YtmngmbpdiaocjaaGame10
import Derived.Test.YtmngmbpdiaocjaaWat
import Derived.BigFrame
import Derived.Deep.DeepCutAuto
namespace Go.Proofs.Ytmngmbpdiaocjaa
open Go.Joins Go.ChangeShapes Go.WideShapes Go.ChangeAt Go.RowKit Go.Deep
set_option linter.unusedVariables false
/-- A variable of 17 cells that may be written. -/
structure Th (u : World) (z : Nat) : Prop where
  lt : z < u.heap.size
  th : u.there z 0 17
theorem Th.below {u v : World} {z : Nat} (h : Th u z) (k : Below u.heap.size u v) : Th v z :=
  ⟨Nat.lt_of_lt_of_le h.lt k.size, fun j hj => by have := h.th j hj; exact ⟨by rw [k.cell (p := ⟨z, 0 + j, none⟩) h.lt]; exact this.1, by rw [k.frozen (p := ⟨z, 0 + j, none⟩) h.lt]; exact this.2⟩⟩
theorem th_new (w : World) (T : TypeId) : Th (w.alloc (.cells #[.int .i64 0, .int .i64 0, .bool false, .bool false, .bool false, .bool false, .bool false, .int .i64 0, .int .i64 0, .slice none 0 0, .slice none 0 0, .int .i64 0, .slice none 0 0, .slice none 0 0, .slice none 0 0, .int .i64 0, .int .i64 0] T)) w.heap.size := ⟨(g17_new w T).lt, there17 w T⟩
/-- The blocks from lo up to hi stay as they are. -/
structure Fr (lo hi : Nat) (u v : World) : Prop where
  size : u.heap.size ≤ v.heap.size
  blk : ∀ k, lo ≤ k → k < hi → k < u.heap.size → v.heap[k]? = u.heap[k]?
theorem Fr.of_below0 {lo hi : Nat} {u v : World} (h : Below u.heap.size u v) : Fr lo hi u v := ⟨h.size, fun k _ _ hk => h.block k hk⟩
theorem Fr.of_but {lo hi b : Nat} {u v : World} (h : But b u v) (hb : b < lo ∨ hi ≤ b) : Fr lo hi u v := ⟨h.size, fun k h1 h2 h3 => h.block k h3 (by omega)⟩
theorem Fr.of_but2 {lo hi b c : Nat} {u v : World} (h : But2 b c u v) (hb : b < lo ∨ hi ≤ b) (hc : c < lo ∨ hi ≤ c) : Fr lo hi u v := ⟨h.size, fun k h1 h2 h3 => h.block k h3 (by omega) (by omega)⟩
/-- What is known of a game's cells: rows in blocks from lo up to hi. -/
structure GfOk (Gf : Nat → Nat → List Value → World → Prop) : Prop where
  len : ∀ lo hi cs u, Gf lo hi cs u → cs.length = 17 ∧ ∀ v ∈ cs, v.oneCell' = true
  fr : ∀ lo hi cs u v, Gf lo hi cs u → Fr lo hi u v → Gf lo hi cs v
/-- A call that gives a game and a code. -/
def GfP (Gf : Nat → Nat → List Value → World → Prop) (cd : Int) (w : World) (e : Ending) (w' : World) : Prop :=
  ∃ cs : List Value, e = .returned (.tuple #[.agg cs.toArray, .int .i64 cd]) ∧ Gf w.heap.size w'.heap.size cs w' ∧ Below w.heap.size w w'
/-- A variable with a game: it and its rows lie in blocks from B up to E. -/
structure GAt (Gf : Nat → Nat → List Value → World → Prop) (u : World) (B E lo hi A : Nat) (cs : List Value) : Prop where
  ok : GfOk Gf
  lt : A < E
  rg : u.rangeAt A 0 cs
  g : Gf lo hi cs u
  ne : A < lo ∨ hi ≤ A
  hE : hi ≤ E
  le : E ≤ u.heap.size
  bA : B ≤ A
  bl : B ≤ lo
section
variable {Gf : Nat → Nat → List Value → World → Prop} {u v : World} {B E lo hi A : Nat} {cs : List Value}
theorem GAt.fr (h : GAt Gf u B E lo hi A cs) (k : Fr B E u v) : GAt Gf v B E lo hi A cs :=
  ⟨h.ok, h.lt, fun j x hx => (World.cell?_of_block (a := ⟨A, 0 + j, none⟩) (k.blk A h.bA h.lt (Nat.lt_of_lt_of_le h.lt h.le))).trans (h.rg j x hx), h.ok.fr _ _ _ _ _ h.g ⟨k.size, fun i h1 h2 h3 => k.blk i (Nat.le_trans h.bl h1) (Nat.lt_of_lt_of_le h2 h.hE) h3⟩, h.ne, h.hE, Nat.le_trans h.le k.size, h.bA, h.bl⟩
theorem GAt.below (h : GAt Gf u B E lo hi A cs) (k : Below u.heap.size u v) : GAt Gf v B E lo hi A cs := h.fr (Fr.of_below0 k)
theorem GAt.drew (h : GAt Gf u B E lo hi A cs) : GAt Gf u.drew B E lo hi A cs := h.below (Below.refl _ _).drew
end
/-- What lay there at w1 still lies there. -/
structure Old (w1 u : World) : Prop where
  be : Below w1.heap.size w1 u
theorem Old.below {w1 u v : World} (h : Old w1 u) (k : Below u.heap.size u v) : Old w1 v := ⟨h.be.trans (k.mono h.be.size)⟩
theorem Old.drew {w1 u : World} (h : Old w1 u) : Old w1 u.drew := ⟨h.be.drew⟩
/-- A game is marked: blocks from lo up to hi, and two blocks more, may be turned. -/
structure MkR (Gm : Nat → Nat → List Value → World → Prop) (lo hi z1 z2 : Nat) (cs : List Value) (w w' : World) : Prop where
  g : Gm lo hi cs w'
  os : w'.os = w.os
  tape : w'.tape = w.tape
  output : w'.output = w.output
  size : w.heap.size ≤ w'.heap.size
  block : ∀ k, k < w.heap.size → k ≠ z1 → k ≠ z2 → (k < lo ∨ hi ≤ k) → w'.heap[k]? = w.heap[k]?
theorem MkR.below {Gm : Nat → Nat → List Value → World → Prop} {lo hi z1 z2 : Nat} {cs : List Value} {w w' a : World} {B : Nat} (h : MkR Gm lo hi z1 z2 cs w w') (h1 : B ≤ z1) (h2 : B ≤ z2) (h3 : B ≤ lo) (h4 : B ≤ w.heap.size) (k : Below B a w) : Below B a w' :=
  ⟨h.os.trans k.os, h.tape.trans k.tape, h.output.trans k.output, Nat.le_trans k.size h.size, fun i hi => (h.block i (by omega) (by omega) (by omega) (.inl (by omega))).trans (k.block i hi)⟩
theorem MkR.range {Gm : Nat → Nat → List Value → World → Prop} {lo hi z1 z2 : Nat} {cs cs' : List Value} {w w' : World} {A : Nat} (h : MkR Gm lo hi z1 z2 cs w w') (h1 : A < w.heap.size) (h2 : A ≠ z1) (h3 : A ≠ z2) (h4 : A < lo ∨ hi ≤ A) (k : w.rangeAt A 0 cs') : w'.rangeAt A 0 cs' :=
  fun j x hx => (World.cell?_of_block (a := ⟨A, 0 + j, none⟩) (h.block A h1 h2 h3 h4)).trans (k j x hx)
theorem wpList_load_wantG {P : Program} {ops : Array Oper} {rest : List Oper} {op : Oper} {a : Act} {w : World} {Q : Exit → Act → World → Prop} (hw : Region.wanted op (yielded ops a.tmps) = true) (ty : TypeId) (x : Operand) (ho : op.op = .load ty x)
    (b o : Nat) (hx : a.eval x = .pointer (some ⟨b, o, none⟩)) (cs : List Value) (d : TypeDesc) (hc : w.rangeAt b o cs)
    (hu : P.underlying ty = some d) (hd : d.isRow = true) (hi : (P.info? ty).map (·.size) = some cs.length)
    (h : wpList P ops Q rest (a.put op.dst (.agg cs.toArray)) w) : wpList P ops Q (op :: rest) a w :=
  BigFrame.wpList_want hw fun K hK => wp_load_mid ty x ho b o hx cs d hc hu hd hi (hK _ _ h)
set_option maxHeartbeats 16000000 in
set_option maxRecDepth 100000 in
theorem walkG_FnExactGameFrom (p s c l : Int) (st sk re fe ag : Bool) (q1 q2 : Option Addr) (qn1 qc1 qn2 qc2 : Nat) (qp : Int) (xs ys : List Int) (Gs Go Gm : Nat → Nat → List Value → World → Prop) (fs : GfOk Gs) (fo : GfOk Go) (fm : GfOk Gm) (cd M : Int) (qM : ¬ M < 0) (w : World) (h : PosW w q1 q2 qn1 qn2 xs ys)
    (hs : ∀ (a1 a2 : Option Addr) (c1 c2 : Nat) (w : World), PosR w a1 a2 qn1 qn2 xs ys → Calls Try.prog 14 #[.agg #[.int .i64 p, .int .i64 s, .bool st, .bool sk, .bool re, .bool fe, .bool ag, .int .i64 c, .int .i64 l], .agg #[.slice a1 qn1 c1, .slice a2 qn2 c2, .int .i64 qp]] w (GfP Gs cd w))
    (hi : ∀ (a1 a2 : Option Addr) (c1 c2 : Nat) (w : World), PosR w a1 a2 qn1 qn2 xs ys → Calls Try.prog 17 #[.agg #[.int .i64 p, .int .i64 s, .bool st, .bool sk, .bool re, .bool fe, .bool ag, .int .i64 c, .int .i64 l], .agg #[.slice a1 qn1 c1, .slice a2 qn2 c2, .int .i64 qp]] w (GfP Go cd w))
    (he : ∀ (l1 h1 l2 h2 : Nat) (c1 c2 : List Value) (w : World), Go l1 h1 c1 w → Gs l2 h2 c2 w → Calls Try.prog 12 #[.agg c1.toArray, .agg c2.toArray] w fun e w' => e = .returned (.bool true) ∧ Below w.heap.size w w')
    (hm : ∀ (lo hi z1 z2 : Nat) (cs : List Value) (w : World), Go lo hi cs w → hi ≤ w.heap.size → z1 < lo → z2 < lo → z1 ≠ z2 → Calls Try.prog 20 #[.agg cs.toArray, .int .i64 1] w fun e w' => e = .returned (.int .i64 M) ∧ MkR Gm lo hi z1 z2 cs w w')
    (hh : ∀ (lo hi : Nat) (cs : List Value) (w : World), Gm lo hi cs w → Calls Try.prog 21 #[.agg cs.toArray, .int .i64 1] w fun e w' => e = .returned (.int .i64 M) ∧ Below w.heap.size w w') :
    Calls Try.prog 4 #[.agg #[.int .i64 p, .int .i64 s, .bool st, .bool sk, .bool re, .bool fe, .bool ag, .int .i64 c, .int .i64 l], .agg #[.slice q1 qn1 qc1, .slice q2 qn2 qc2, .int .i64 qp]] w fun e w' => e = .returned (.bool true) ∧ Below w.heap.size w w' := by
  have hb1 := h.m1
  have hb2 := h.m2
  have HW := Lib.hid h
  have Hs := Lib.hid hs
  have Hi := Lib.hid hi
  have He := Lib.hid he
  have Hm := Lib.hid hm
  have Hh := Lib.hid hh
  have Fs := Lib.hid fs
  have Fo := Lib.hid fo
  have Fm := Lib.hid fm
  have HS := Lib.hid (rp_new p s c l st sk re fe ag q1 q2 qn1 qc1 qn2 qc2 qp w 23 26)
  clear h hs hi he hm hh fs fo fm
  by_cases hsz : (qn1 : Int) + qn2 ≤ 1048576
  · have H := Lib.hid (HW.out.toR hsz)
    have e1 := szV_yes hsz
    have E1 := Lib.hid e1
    clear e1
    go_enter Try.func4, Try.ntmps4
    go_wp2_with fail
    refine (szP_any q1 q2 qn1 qc1 qn2 qc2 qp 1048576 (by omega) (by omega) hb1 hb2 _).mono ?_
    rintro e w1 ⟨rfl, b1⟩
    rw [E1.out]
    have q0 : 0 ≤ 1048576 - (qn1 : Int) - qn2 := by omega
    have HS := Lib.hid (HS.out.below b1)
    clear b1
    go_upto_region 5 with fail
    go_cut [6, 7] (fun s6 s7 wx => ∃ (A lo hi : Nat) (cs : List Value), s6 = .pointer (some ⟨A, 0, none⟩) ∧ s7 = .int .i64 cd ∧ RpAt w p s c l st sk re fe ag q1 q2 qn1 qc1 qn2 qc2 qp wx ∧ GAt Gs wx 0 wx.heap.size lo hi A cs)
    case first =>
      refine wp_region_held_drew (S := fun u => u.rangeAt w.heap.size 0 [.int .i64 p, .int .i64 s, .bool st, .bool sk, .bool re, .bool fe, .bool ag, .int .i64 c, .int .i64 l] ∧ u.rangeAt (w.heap.size + 1) 0 [.slice q1 qn1 qc1, .slice q2 qn2 qc2, .int .i64 qp]) (by kernel_rfl) ⟨RuAt.range9 HS.out.1, PoAt.range3 HS.out.2.1⟩ (fun hHeld => ?_)
      have HS := Lib.hid (HS.out.drew)
      generalize World.drew _ = ud at *
      refine wpAnyH_take (i := 0) rfl (by kernel_rfl) (by kernel_rfl) (by kernel_rfl) (fun _ _ _ h => h) (yieldsIf_load_mid (by rfl) 23 _ rfl w.heap.size 0 rfl [.int .i64 p, .int .i64 s, .bool st, .bool sk, .bool re, .bool fe, .bool ag, .int .i64 c, .int .i64 l] _ (fun u hu => hu.1) Try.underlying23 rfl (by kernel_rfl)) hHeld ?_
      simp only [Act.put, List.setIfInBounds_toArray]
      refine wpAnyH_take (i := 2) rfl (by kernel_rfl) (by kernel_rfl) (by kernel_rfl) (fun _ _ _ h => h) (yieldsIf_load_mid (by rfl) 26 _ rfl (w.heap.size + 1) 0 rfl [.slice q1 qn1 qc1, .slice q2 qn2 qc2, .int .i64 qp] _ (fun u hu => hu.2) Try.underlying26 rfl (by kernel_rfl)) hHeld ?_
      simp only [Act.put]
      refine wpAnyH_ready (rs := [1, 8]) (by kernel_rfl) (by simp) ?_
      refine AllReadyH.cons rfl (fun K hK => ?_) (AllReadyH.cons rfl (fun K hK => ?_) AllReadyH.nil)
      · rw [if_pos (by rfl)]
        go_simp
        go_at_call 15
        refine (toRules_any p s c l st sk re fe ag _).mono ?_
        rintro e v1 ⟨rfl, hb⟩
        have HS := Lib.hid (HS.out.below hb)
        clear hb
        (try dsimp only)
        refine hK.out _ _ ⟨RuAt.range9 HS.out.1, PoAt.range3 HS.out.2.1⟩ (fun hHeld => ?_)
        clear hK K
        (try simp only [Act.put, List.setIfInBounds_toArray, List.set_cons_zero, List.set_cons_succ])
        refine wpAnyH_ready (rs := [3, 8]) (by kernel_rfl) (by simp) ?_
        refine AllReadyH.cons rfl (fun K hK => ?_) (AllReadyH.cons rfl (fun K hK => ?_) AllReadyH.nil)
        · rw [if_pos (by rfl)]
          go_simp
          go_at_call 16
          refine (toPos_any q1 q2 qn1 qc1 qn2 qc2 qp xs ys _ (H.out.below HS.out.2.2)).mono ?_
          rintro e v3 ⟨g1, g2, rfl, o, lo1, lo2, hb⟩
          have OP := Lib.hid o.r
          clear o lo1 lo2
          have HS := Lib.hid (HS.out.below hb)
          clear hb
          (try dsimp only)
          refine hK.out _ _ ⟨RuAt.range9 HS.out.1, PoAt.range3 HS.out.2.1⟩ (fun hHeld => ?_)
          clear hK K
          (try simp only [Act.put, List.setIfInBounds_toArray, List.set_cons_zero, List.set_cons_succ])
          refine wpAnyH_ready (rs := [4, 8]) (by kernel_rfl) (by simp) ?_
          refine AllReadyH.cons rfl (fun K hK => ?_) (AllReadyH.cons rfl (fun K hK => ?_) AllReadyH.nil)
          · have hzm := HS.out.2.1.1
            rw [if_pos (by rfl)]
            go_simp
            go_at_call 14
            refine (Hs.out _ _ _ _ _ OP.out).mono ?_
            rintro e v4 ⟨cs, rfl, hg, hb⟩
            have GS := Lib.hid hg
            obtain ⟨hcl, hco⟩ := (Fs.out.len _ _ _ _ hg)
            have hcs : cs.toArray.size = 17 := hcl
            have hhi := hb.size
            clear hg
            have HS := Lib.hid (HS.out.below hb)
            have OP := Lib.hid (OP.out.below hb)
            clear hb
            (try dsimp only)
            refine hK.out _ _ ⟨RuAt.range9 HS.out.1, PoAt.range3 HS.out.2.1⟩ (fun hHeld => ?_)
            clear hK K
            (try simp only [Act.put, List.setIfInBounds_toArray, List.set_cons_zero, List.set_cons_succ])
            refine wpAnyH_take (i := 5) (oi := { dst := some 21, op := Op.move (Operand.tmp 26), type := 39, pos := "exact.go:4073", after := #[{ on := 4, ground := Ground.data }], guard := none }) (v := .tuple #[.agg cs.toArray, .int .i64 cd]) rfl (by kernel_rfl) (by kernel_rfl) (by kernel_rfl) (fun _ _ _ h => h) (.inl ⟨by rfl, fun u hu => by (try dsimp only at hu); go_simp; try with_reducible rfl⟩) hHeld ?_
            simp only [Act.put, List.setIfInBounds_toArray, List.set_cons_zero, List.set_cons_succ]
            refine wpAnyH_take (i := 6) (oi := { dst := some 27, op := Op.extract (Operand.tmp 21) 0, type := 34, pos := "exact.go:4073", after := #[{ on := 5, ground := Ground.data }], guard := none }) (v := .agg cs.toArray) rfl (by kernel_rfl) (by kernel_rfl) (by kernel_rfl) (fun _ _ _ h => h) (.inl ⟨by rfl, fun u hu => by (try dsimp only at hu); go_simp; try with_reducible rfl⟩) hHeld ?_
            simp only [Act.put, List.setIfInBounds_toArray, List.set_cons_zero, List.set_cons_succ]
            refine wpAnyH_take (i := 7) (oi := { dst := some 28, op := Op.extract (Operand.tmp 21) 1, type := 2, pos := "exact.go:4073", after := #[{ on := 5, ground := Ground.data }, { on := 9, ground := Ground.gcOnly Departure.lateStores }], guard := none }) (v := .int .i64 cd) rfl (by kernel_rfl) (by kernel_rfl) (by kernel_rfl) (fun _ _ _ h => h) (.inl ⟨by rfl, fun u hu => by (try dsimp only at hu); go_simp; try with_reducible rfl⟩) hHeld ?_
            simp only [Act.put, List.setIfInBounds_toArray, List.set_cons_zero, List.set_cons_succ]
            refine wpAnyH_ready (rs := [8]) (by kernel_rfl) (by simp) ?_
            refine AllReadyH.cons rfl (fun K hK => ?_) AllReadyH.nil
            rw [if_pos (by rfl)]
            go_simp
            have hza := HS.out.2.1.1
            have hb := al1 v4 (.cells #[.int .i64 0, .int .i64 0, .bool false, .bool false, .bool false, .bool false, .bool false, .int .i64 0, .int .i64 0, .slice none 0 0, .slice none 0 0, .int .i64 0, .slice none 0 0, .slice none 0 0, .slice none 0 0, .int .i64 0, .int .i64 0] 34)
            have HZ := Lib.hid (th_new v4 34)
            have GS := Lib.hid (Fs.out.fr _ _ _ _ _ GS.out (Fr.of_below0 hb))
            have HS := Lib.hid (HS.out.below hb)
            have OP := Lib.hid (OP.out.below hb)
            have hsz2 : v4.heap.size ≤ (v4.alloc (.cells #[.int .i64 0, .int .i64 0, .bool false, .bool false, .bool false, .bool false, .bool false, .int .i64 0, .int .i64 0, .slice none 0 0, .slice none 0 0, .int .i64 0, .slice none 0 0, .slice none 0 0, .slice none 0 0, .int .i64 0, .int .i64 0] 34)).heap.size := hb.size
            change K _ (v4.alloc (.cells #[.int .i64 0, .int .i64 0, .bool false, .bool false, .bool false, .bool false, .bool false, .int .i64 0, .int .i64 0, .slice none 0 0, .slice none 0 0, .int .i64 0, .slice none 0 0, .slice none 0 0, .slice none 0 0, .int .i64 0, .int .i64 0] 34))
            generalize v4.alloc (.cells #[.int .i64 0, .int .i64 0, .bool false, .bool false, .bool false, .bool false, .bool false, .int .i64 0, .int .i64 0, .slice none 0 0, .slice none 0 0, .int .i64 0, .slice none 0 0, .slice none 0 0, .slice none 0 0, .int .i64 0, .int .i64 0] 34) = ua at *
            clear hb
            (try dsimp only)
            refine hK.out _ _ ⟨RuAt.range9 HS.out.1, PoAt.range3 HS.out.2.1⟩ (fun hHeld => ?_)
            clear hK K
            (try simp only [Act.put, List.setIfInBounds_toArray, List.set_cons_zero, List.set_cons_succ])
            refine wpAnyH_ready (rs := [9]) (by kernel_rfl) (by simp) ?_
            refine AllReadyH.cons rfl (fun K hK => ?_) AllReadyH.nil
            rw [if_pos (by rfl)]
            refine wp_store_mid 34 _ _ rfl (v4.heap.size) 0 cs.toArray rfl rfl (by rw [hcs]; exact HZ.out.th) (by rw [hcs]; kernel_rfl) (all_oneCell_toArray hco) ?_
            (try simp only [Act.put, List.setIfInBounds_toArray])
            have HS := Lib.hid (show RpAt w p s c l st sk re fe ag q1 q2 qn1 qc1 qn2 qc2 qp _ from ⟨HS.out.1.but (but_scg (v4.heap.size) cs 0 (But.refl _ _)) (by omega), HS.out.2.1.but (but_scg (v4.heap.size) cs 0 (But.refl _ _)) (by omega), below_scg (v4.heap.size) (by omega) cs 0 HS.out.2.2⟩)
            have HCs := Lib.hid (World.rangeAt_setCells_same ua (v4.heap.size) 0 cs (by rw [hcl]; exact HZ.out.th))
            have GS := Lib.hid (Fs.out.fr _ _ _ _ _ GS.out (Fr.of_but (but_scg (v4.heap.size) cs 0 (But.refl _ _)) (by omega)))
            have hsz : v4.heap.size < (World.setCells ua (v4.heap.size) 0 cs).heap.size := by rw [size_scg]; exact HZ.out.lt
            (try dsimp only)
            refine hK.out _ _ ⟨RuAt.range9 HS.out.1, PoAt.range3 HS.out.2.1⟩ (fun hHeld => ?_)
            clear hK K
            (try simp only [Act.put, List.setIfInBounds_toArray, List.set_cons_zero, List.set_cons_succ])
            refine wpAnyH_ready (rs := [10]) (by kernel_rfl) (by simp) ?_
            refine AllReadyH.cons rfl (fun K hK => ?_) AllReadyH.nil
            rw [if_pos (by rfl)]
            go_simp
            refine hK.out _ _ ⟨RuAt.range9 HS.out.1, PoAt.range3 HS.out.2.1⟩ (fun hHeld => ?_)
            clear hK K
            (try simp only [Act.put, List.setIfInBounds_toArray, List.set_cons_zero, List.set_cons_succ])
            refine wpAnyH_done (by kernel_rfl) ?_ _
            go_wp2_with fail
            go_meet
            exact ⟨v4.heap.size, _, _, cs, rfl, rfl, HS.out, ⟨Fs.out, hsz, HCs.out, GS.out, (by omega), (by rw [size_scg]; omega), Nat.le_refl _, Nat.zero_le _, Nat.zero_le _⟩⟩
          · rw [if_pos (by rfl)]
            go_simp
            have hza := HS.out.2.1.1
            have hb := al1 v3 (.cells #[.int .i64 0, .int .i64 0, .bool false, .bool false, .bool false, .bool false, .bool false, .int .i64 0, .int .i64 0, .slice none 0 0, .slice none 0 0, .int .i64 0, .slice none 0 0, .slice none 0 0, .slice none 0 0, .int .i64 0, .int .i64 0] 34)
            have HZ := Lib.hid (th_new v3 34)
            have HS := Lib.hid (HS.out.below hb)
            have OP := Lib.hid (OP.out.below hb)
            change K _ (v3.alloc (.cells #[.int .i64 0, .int .i64 0, .bool false, .bool false, .bool false, .bool false, .bool false, .int .i64 0, .int .i64 0, .slice none 0 0, .slice none 0 0, .int .i64 0, .slice none 0 0, .slice none 0 0, .slice none 0 0, .int .i64 0, .int .i64 0] 34))
            generalize v3.alloc (.cells #[.int .i64 0, .int .i64 0, .bool false, .bool false, .bool false, .bool false, .bool false, .int .i64 0, .int .i64 0, .slice none 0 0, .slice none 0 0, .int .i64 0, .slice none 0 0, .slice none 0 0, .slice none 0 0, .int .i64 0, .int .i64 0] 34) = ua at *
            clear hb
            (try dsimp only)
            refine hK.out _ _ ⟨RuAt.range9 HS.out.1, PoAt.range3 HS.out.2.1⟩ (fun hHeld => ?_)
            clear hK K
            (try simp only [Act.put, List.setIfInBounds_toArray, List.set_cons_zero, List.set_cons_succ])
            refine wpAnyH_ready (rs := [4]) (by kernel_rfl) (by simp) ?_
            refine AllReadyH.cons rfl (fun K hK => ?_) AllReadyH.nil
            have hal := HZ.out.lt
            have hzm := HS.out.2.1.1
            rw [if_pos (by rfl)]
            go_simp
            go_at_call 14
            refine (Hs.out _ _ _ _ _ OP.out).mono ?_
            rintro e v4 ⟨cs, rfl, hg, hb⟩
            have GS := Lib.hid hg
            obtain ⟨hcl, hco⟩ := (Fs.out.len _ _ _ _ hg)
            have hcs : cs.toArray.size = 17 := hcl
            have hhi := hb.size
            clear hg
            have HS := Lib.hid (HS.out.below hb)
            have OP := Lib.hid (OP.out.below hb)
            have HZ := Lib.hid (HZ.out.below hb)
            clear hb
            (try dsimp only)
            refine hK.out _ _ ⟨RuAt.range9 HS.out.1, PoAt.range3 HS.out.2.1⟩ (fun hHeld => ?_)
            clear hK K
            (try simp only [Act.put, List.setIfInBounds_toArray, List.set_cons_zero, List.set_cons_succ])
            refine wpAnyH_take (i := 5) (oi := { dst := some 21, op := Op.move (Operand.tmp 26), type := 39, pos := "exact.go:4073", after := #[{ on := 4, ground := Ground.data }], guard := none }) (v := .tuple #[.agg cs.toArray, .int .i64 cd]) rfl (by kernel_rfl) (by kernel_rfl) (by kernel_rfl) (fun _ _ _ h => h) (.inl ⟨by rfl, fun u hu => by (try dsimp only at hu); go_simp; try with_reducible rfl⟩) hHeld ?_
            simp only [Act.put, List.setIfInBounds_toArray, List.set_cons_zero, List.set_cons_succ]
            refine wpAnyH_take (i := 6) (oi := { dst := some 27, op := Op.extract (Operand.tmp 21) 0, type := 34, pos := "exact.go:4073", after := #[{ on := 5, ground := Ground.data }], guard := none }) (v := .agg cs.toArray) rfl (by kernel_rfl) (by kernel_rfl) (by kernel_rfl) (fun _ _ _ h => h) (.inl ⟨by rfl, fun u hu => by (try dsimp only at hu); go_simp; try with_reducible rfl⟩) hHeld ?_
            simp only [Act.put, List.setIfInBounds_toArray, List.set_cons_zero, List.set_cons_succ]
            refine wpAnyH_take (i := 7) (oi := { dst := some 28, op := Op.extract (Operand.tmp 21) 1, type := 2, pos := "exact.go:4073", after := #[{ on := 5, ground := Ground.data }, { on := 9, ground := Ground.gcOnly Departure.lateStores }], guard := none }) (v := .int .i64 cd) rfl (by kernel_rfl) (by kernel_rfl) (by kernel_rfl) (fun _ _ _ h => h) (.inl ⟨by rfl, fun u hu => by (try dsimp only at hu); go_simp; try with_reducible rfl⟩) hHeld ?_
            simp only [Act.put, List.setIfInBounds_toArray, List.set_cons_zero, List.set_cons_succ]
            refine wpAnyH_ready (rs := [9]) (by kernel_rfl) (by simp) ?_
            refine AllReadyH.cons rfl (fun K hK => ?_) AllReadyH.nil
            rw [if_pos (by rfl)]
            refine wp_store_mid 34 _ _ rfl (v3.heap.size) 0 cs.toArray rfl rfl (by rw [hcs]; exact HZ.out.th) (by rw [hcs]; kernel_rfl) (all_oneCell_toArray hco) ?_
            (try simp only [Act.put, List.setIfInBounds_toArray])
            have HS := Lib.hid (show RpAt w p s c l st sk re fe ag q1 q2 qn1 qc1 qn2 qc2 qp _ from ⟨HS.out.1.but (but_scg (v3.heap.size) cs 0 (But.refl _ _)) (by omega), HS.out.2.1.but (but_scg (v3.heap.size) cs 0 (But.refl _ _)) (by omega), below_scg (v3.heap.size) (by omega) cs 0 HS.out.2.2⟩)
            have HCs := Lib.hid (World.rangeAt_setCells_same v4 (v3.heap.size) 0 cs (by rw [hcl]; exact HZ.out.th))
            have GS := Lib.hid (Fs.out.fr _ _ _ _ _ GS.out (Fr.of_but (but_scg (v3.heap.size) cs 0 (But.refl _ _)) (by omega)))
            have hsz : v3.heap.size < (World.setCells v4 (v3.heap.size) 0 cs).heap.size := by rw [size_scg]; exact HZ.out.lt
            (try dsimp only)
            refine hK.out _ _ ⟨RuAt.range9 HS.out.1, PoAt.range3 HS.out.2.1⟩ (fun hHeld => ?_)
            clear hK K
            (try simp only [Act.put, List.setIfInBounds_toArray, List.set_cons_zero, List.set_cons_succ])
            refine wpAnyH_ready (rs := [10]) (by kernel_rfl) (by simp) ?_
            refine AllReadyH.cons rfl (fun K hK => ?_) AllReadyH.nil
            rw [if_pos (by rfl)]
            go_simp
            refine hK.out _ _ ⟨RuAt.range9 HS.out.1, PoAt.range3 HS.out.2.1⟩ (fun hHeld => ?_)
            clear hK K
            (try simp only [Act.put, List.setIfInBounds_toArray, List.set_cons_zero, List.set_cons_succ])
            refine wpAnyH_done (by kernel_rfl) ?_ _
            go_wp2_with fail
            go_meet
            exact ⟨v3.heap.size, _, _, cs, rfl, rfl, HS.out, ⟨Fs.out, hsz, HCs.out, GS.out, (by omega), (by rw [size_scg]; omega), Nat.le_refl _, Nat.zero_le _, Nat.zero_le _⟩⟩
        · rw [if_pos (by rfl)]
          go_simp
          have hza := HS.out.2.1.1
          have hb := al1 v1 (.cells #[.int .i64 0, .int .i64 0, .bool false, .bool false, .bool false, .bool false, .bool false, .int .i64 0, .int .i64 0, .slice none 0 0, .slice none 0 0, .int .i64 0, .slice none 0 0, .slice none 0 0, .slice none 0 0, .int .i64 0, .int .i64 0] 34)
          have HZ := Lib.hid (th_new v1 34)
          have HS := Lib.hid (HS.out.below hb)
          change K _ (v1.alloc (.cells #[.int .i64 0, .int .i64 0, .bool false, .bool false, .bool false, .bool false, .bool false, .int .i64 0, .int .i64 0, .slice none 0 0, .slice none 0 0, .int .i64 0, .slice none 0 0, .slice none 0 0, .slice none 0 0, .int .i64 0, .int .i64 0] 34))
          generalize v1.alloc (.cells #[.int .i64 0, .int .i64 0, .bool false, .bool false, .bool false, .bool false, .bool false, .int .i64 0, .int .i64 0, .slice none 0 0, .slice none 0 0, .int .i64 0, .slice none 0 0, .slice none 0 0, .slice none 0 0, .int .i64 0, .int .i64 0] 34) = ua at *
          clear hb
          (try dsimp only)
          refine hK.out _ _ ⟨RuAt.range9 HS.out.1, PoAt.range3 HS.out.2.1⟩ (fun hHeld => ?_)
          clear hK K
          (try simp only [Act.put, List.setIfInBounds_toArray, List.set_cons_zero, List.set_cons_succ])
          refine wpAnyH_ready (rs := [3]) (by kernel_rfl) (by simp) ?_
          refine AllReadyH.cons rfl (fun K hK => ?_) AllReadyH.nil
          rw [if_pos (by rfl)]
          go_simp
          go_at_call 16
          refine (toPos_any q1 q2 qn1 qc1 qn2 qc2 qp xs ys _ (H.out.below HS.out.2.2)).mono ?_
          rintro e v3 ⟨g1, g2, rfl, o, lo1, lo2, hb⟩
          have OP := Lib.hid o.r
          clear o lo1 lo2
          have HS := Lib.hid (HS.out.below hb)
          have HZ := Lib.hid (HZ.out.below hb)
          clear hb
          (try dsimp only)
          refine hK.out _ _ ⟨RuAt.range9 HS.out.1, PoAt.range3 HS.out.2.1⟩ (fun hHeld => ?_)
          clear hK K
          (try simp only [Act.put, List.setIfInBounds_toArray, List.set_cons_zero, List.set_cons_succ])
          refine wpAnyH_ready (rs := [4]) (by kernel_rfl) (by simp) ?_
          refine AllReadyH.cons rfl (fun K hK => ?_) AllReadyH.nil
          have hal := HZ.out.lt
          have hzm := HS.out.2.1.1
          rw [if_pos (by rfl)]
          go_simp
          go_at_call 14
          refine (Hs.out _ _ _ _ _ OP.out).mono ?_
          rintro e v4 ⟨cs, rfl, hg, hb⟩
          have GS := Lib.hid hg
          obtain ⟨hcl, hco⟩ := (Fs.out.len _ _ _ _ hg)
          have hcs : cs.toArray.size = 17 := hcl
          have hhi := hb.size
          clear hg
          have HS := Lib.hid (HS.out.below hb)
          have HZ := Lib.hid (HZ.out.below hb)
          have OP := Lib.hid (OP.out.below hb)
          clear hb
          (try dsimp only)
          refine hK.out _ _ ⟨RuAt.range9 HS.out.1, PoAt.range3 HS.out.2.1⟩ (fun hHeld => ?_)
          clear hK K
          (try simp only [Act.put, List.setIfInBounds_toArray, List.set_cons_zero, List.set_cons_succ])
          refine wpAnyH_take (i := 5) (oi := { dst := some 21, op := Op.move (Operand.tmp 26), type := 39, pos := "exact.go:4073", after := #[{ on := 4, ground := Ground.data }], guard := none }) (v := .tuple #[.agg cs.toArray, .int .i64 cd]) rfl (by kernel_rfl) (by kernel_rfl) (by kernel_rfl) (fun _ _ _ h => h) (.inl ⟨by rfl, fun u hu => by (try dsimp only at hu); go_simp; try with_reducible rfl⟩) hHeld ?_
          simp only [Act.put, List.setIfInBounds_toArray, List.set_cons_zero, List.set_cons_succ]
          refine wpAnyH_take (i := 6) (oi := { dst := some 27, op := Op.extract (Operand.tmp 21) 0, type := 34, pos := "exact.go:4073", after := #[{ on := 5, ground := Ground.data }], guard := none }) (v := .agg cs.toArray) rfl (by kernel_rfl) (by kernel_rfl) (by kernel_rfl) (fun _ _ _ h => h) (.inl ⟨by rfl, fun u hu => by (try dsimp only at hu); go_simp; try with_reducible rfl⟩) hHeld ?_
          simp only [Act.put, List.setIfInBounds_toArray, List.set_cons_zero, List.set_cons_succ]
          refine wpAnyH_take (i := 7) (oi := { dst := some 28, op := Op.extract (Operand.tmp 21) 1, type := 2, pos := "exact.go:4073", after := #[{ on := 5, ground := Ground.data }, { on := 9, ground := Ground.gcOnly Departure.lateStores }], guard := none }) (v := .int .i64 cd) rfl (by kernel_rfl) (by kernel_rfl) (by kernel_rfl) (fun _ _ _ h => h) (.inl ⟨by rfl, fun u hu => by (try dsimp only at hu); go_simp; try with_reducible rfl⟩) hHeld ?_
          simp only [Act.put, List.setIfInBounds_toArray, List.set_cons_zero, List.set_cons_succ]
          refine wpAnyH_ready (rs := [9]) (by kernel_rfl) (by simp) ?_
          refine AllReadyH.cons rfl (fun K hK => ?_) AllReadyH.nil
          rw [if_pos (by rfl)]
          refine wp_store_mid 34 _ _ rfl (v1.heap.size) 0 cs.toArray rfl rfl (by rw [hcs]; exact HZ.out.th) (by rw [hcs]; kernel_rfl) (all_oneCell_toArray hco) ?_
          (try simp only [Act.put, List.setIfInBounds_toArray])
          have HS := Lib.hid (show RpAt w p s c l st sk re fe ag q1 q2 qn1 qc1 qn2 qc2 qp _ from ⟨HS.out.1.but (but_scg (v1.heap.size) cs 0 (But.refl _ _)) (by omega), HS.out.2.1.but (but_scg (v1.heap.size) cs 0 (But.refl _ _)) (by omega), below_scg (v1.heap.size) (by omega) cs 0 HS.out.2.2⟩)
          have HCs := Lib.hid (World.rangeAt_setCells_same v4 (v1.heap.size) 0 cs (by rw [hcl]; exact HZ.out.th))
          have GS := Lib.hid (Fs.out.fr _ _ _ _ _ GS.out (Fr.of_but (but_scg (v1.heap.size) cs 0 (But.refl _ _)) (by omega)))
          have hsz : v1.heap.size < (World.setCells v4 (v1.heap.size) 0 cs).heap.size := by rw [size_scg]; exact HZ.out.lt
          (try dsimp only)
          refine hK.out _ _ ⟨RuAt.range9 HS.out.1, PoAt.range3 HS.out.2.1⟩ (fun hHeld => ?_)
          clear hK K
          (try simp only [Act.put, List.setIfInBounds_toArray, List.set_cons_zero, List.set_cons_succ])
          refine wpAnyH_ready (rs := [10]) (by kernel_rfl) (by simp) ?_
          refine AllReadyH.cons rfl (fun K hK => ?_) AllReadyH.nil
          rw [if_pos (by rfl)]
          go_simp
          refine hK.out _ _ ⟨RuAt.range9 HS.out.1, PoAt.range3 HS.out.2.1⟩ (fun hHeld => ?_)
          clear hK K
          (try simp only [Act.put, List.setIfInBounds_toArray, List.set_cons_zero, List.set_cons_succ])
          refine wpAnyH_done (by kernel_rfl) ?_ _
          go_wp2_with fail
          go_meet
          exact ⟨v1.heap.size, _, _, cs, rfl, rfl, HS.out, ⟨Fs.out, hsz, HCs.out, GS.out, (by omega), (by rw [size_scg]; omega), Nat.le_refl _, Nat.zero_le _, Nat.zero_le _⟩⟩
      · rw [if_pos (by rfl)]
        go_simp
        have hza := HS.out.2.1.1
        have hb := al1 ud (.cells #[.int .i64 0, .int .i64 0, .bool false, .bool false, .bool false, .bool false, .bool false, .int .i64 0, .int .i64 0, .slice none 0 0, .slice none 0 0, .int .i64 0, .slice none 0 0, .slice none 0 0, .slice none 0 0, .int .i64 0, .int .i64 0] 34)
        have HZ := Lib.hid (th_new ud 34)
        have HS := Lib.hid (HS.out.below hb)
        change K _ (ud.alloc (.cells #[.int .i64 0, .int .i64 0, .bool false, .bool false, .bool false, .bool false, .bool false, .int .i64 0, .int .i64 0, .slice none 0 0, .slice none 0 0, .int .i64 0, .slice none 0 0, .slice none 0 0, .slice none 0 0, .int .i64 0, .int .i64 0] 34))
        generalize ud.alloc (.cells #[.int .i64 0, .int .i64 0, .bool false, .bool false, .bool false, .bool false, .bool false, .int .i64 0, .int .i64 0, .slice none 0 0, .slice none 0 0, .int .i64 0, .slice none 0 0, .slice none 0 0, .slice none 0 0, .int .i64 0, .int .i64 0] 34) = ua at *
        clear hb
        (try dsimp only)
        refine hK.out _ _ ⟨RuAt.range9 HS.out.1, PoAt.range3 HS.out.2.1⟩ (fun hHeld => ?_)
        clear hK K
        (try simp only [Act.put, List.setIfInBounds_toArray, List.set_cons_zero, List.set_cons_succ])
        refine wpAnyH_ready (rs := [1]) (by kernel_rfl) (by simp) ?_
        refine AllReadyH.cons rfl (fun K hK => ?_) AllReadyH.nil
        rw [if_pos (by rfl)]
        go_simp
        go_at_call 15
        refine (toRules_any p s c l st sk re fe ag _).mono ?_
        rintro e v1 ⟨rfl, hb⟩
        have HS := Lib.hid (HS.out.below hb)
        have HZ := Lib.hid (HZ.out.below hb)
        clear hb
        (try dsimp only)
        refine hK.out _ _ ⟨RuAt.range9 HS.out.1, PoAt.range3 HS.out.2.1⟩ (fun hHeld => ?_)
        clear hK K
        (try simp only [Act.put, List.setIfInBounds_toArray, List.set_cons_zero, List.set_cons_succ])
        refine wpAnyH_ready (rs := [3]) (by kernel_rfl) (by simp) ?_
        refine AllReadyH.cons rfl (fun K hK => ?_) AllReadyH.nil
        rw [if_pos (by rfl)]
        go_simp
        go_at_call 16
        refine (toPos_any q1 q2 qn1 qc1 qn2 qc2 qp xs ys _ (H.out.below HS.out.2.2)).mono ?_
        rintro e v3 ⟨g1, g2, rfl, o, lo1, lo2, hb⟩
        have OP := Lib.hid o.r
        clear o lo1 lo2
        have HS := Lib.hid (HS.out.below hb)
        have HZ := Lib.hid (HZ.out.below hb)
        clear hb
        (try dsimp only)
        refine hK.out _ _ ⟨RuAt.range9 HS.out.1, PoAt.range3 HS.out.2.1⟩ (fun hHeld => ?_)
        clear hK K
        (try simp only [Act.put, List.setIfInBounds_toArray, List.set_cons_zero, List.set_cons_succ])
        refine wpAnyH_ready (rs := [4]) (by kernel_rfl) (by simp) ?_
        refine AllReadyH.cons rfl (fun K hK => ?_) AllReadyH.nil
        have hal := HZ.out.lt
        have hzm := HS.out.2.1.1
        rw [if_pos (by rfl)]
        go_simp
        go_at_call 14
        refine (Hs.out _ _ _ _ _ OP.out).mono ?_
        rintro e v4 ⟨cs, rfl, hg, hb⟩
        have GS := Lib.hid hg
        obtain ⟨hcl, hco⟩ := (Fs.out.len _ _ _ _ hg)
        have hcs : cs.toArray.size = 17 := hcl
        have hhi := hb.size
        clear hg
        have HS := Lib.hid (HS.out.below hb)
        have HZ := Lib.hid (HZ.out.below hb)
        have OP := Lib.hid (OP.out.below hb)
        clear hb
        (try dsimp only)
        refine hK.out _ _ ⟨RuAt.range9 HS.out.1, PoAt.range3 HS.out.2.1⟩ (fun hHeld => ?_)
        clear hK K
        (try simp only [Act.put, List.setIfInBounds_toArray, List.set_cons_zero, List.set_cons_succ])
        refine wpAnyH_take (i := 5) (oi := { dst := some 21, op := Op.move (Operand.tmp 26), type := 39, pos := "exact.go:4073", after := #[{ on := 4, ground := Ground.data }], guard := none }) (v := .tuple #[.agg cs.toArray, .int .i64 cd]) rfl (by kernel_rfl) (by kernel_rfl) (by kernel_rfl) (fun _ _ _ h => h) (.inl ⟨by rfl, fun u hu => by (try dsimp only at hu); go_simp; try with_reducible rfl⟩) hHeld ?_
        simp only [Act.put, List.setIfInBounds_toArray, List.set_cons_zero, List.set_cons_succ]
        refine wpAnyH_take (i := 6) (oi := { dst := some 27, op := Op.extract (Operand.tmp 21) 0, type := 34, pos := "exact.go:4073", after := #[{ on := 5, ground := Ground.data }], guard := none }) (v := .agg cs.toArray) rfl (by kernel_rfl) (by kernel_rfl) (by kernel_rfl) (fun _ _ _ h => h) (.inl ⟨by rfl, fun u hu => by (try dsimp only at hu); go_simp; try with_reducible rfl⟩) hHeld ?_
        simp only [Act.put, List.setIfInBounds_toArray, List.set_cons_zero, List.set_cons_succ]
        refine wpAnyH_take (i := 7) (oi := { dst := some 28, op := Op.extract (Operand.tmp 21) 1, type := 2, pos := "exact.go:4073", after := #[{ on := 5, ground := Ground.data }, { on := 9, ground := Ground.gcOnly Departure.lateStores }], guard := none }) (v := .int .i64 cd) rfl (by kernel_rfl) (by kernel_rfl) (by kernel_rfl) (fun _ _ _ h => h) (.inl ⟨by rfl, fun u hu => by (try dsimp only at hu); go_simp; try with_reducible rfl⟩) hHeld ?_
        simp only [Act.put, List.setIfInBounds_toArray, List.set_cons_zero, List.set_cons_succ]
        refine wpAnyH_ready (rs := [9]) (by kernel_rfl) (by simp) ?_
        refine AllReadyH.cons rfl (fun K hK => ?_) AllReadyH.nil
        rw [if_pos (by rfl)]
        refine wp_store_mid 34 _ _ rfl (ud.heap.size) 0 cs.toArray rfl rfl (by rw [hcs]; exact HZ.out.th) (by rw [hcs]; kernel_rfl) (all_oneCell_toArray hco) ?_
        (try simp only [Act.put, List.setIfInBounds_toArray])
        have HS := Lib.hid (show RpAt w p s c l st sk re fe ag q1 q2 qn1 qc1 qn2 qc2 qp _ from ⟨HS.out.1.but (but_scg (ud.heap.size) cs 0 (But.refl _ _)) (by omega), HS.out.2.1.but (but_scg (ud.heap.size) cs 0 (But.refl _ _)) (by omega), below_scg (ud.heap.size) (by omega) cs 0 HS.out.2.2⟩)
        have HCs := Lib.hid (World.rangeAt_setCells_same v4 (ud.heap.size) 0 cs (by rw [hcl]; exact HZ.out.th))
        have GS := Lib.hid (Fs.out.fr _ _ _ _ _ GS.out (Fr.of_but (but_scg (ud.heap.size) cs 0 (But.refl _ _)) (by omega)))
        have hsz : ud.heap.size < (World.setCells v4 (ud.heap.size) 0 cs).heap.size := by rw [size_scg]; exact HZ.out.lt
        (try dsimp only)
        refine hK.out _ _ ⟨RuAt.range9 HS.out.1, PoAt.range3 HS.out.2.1⟩ (fun hHeld => ?_)
        clear hK K
        (try simp only [Act.put, List.setIfInBounds_toArray, List.set_cons_zero, List.set_cons_succ])
        refine wpAnyH_ready (rs := [10]) (by kernel_rfl) (by simp) ?_
        refine AllReadyH.cons rfl (fun K hK => ?_) AllReadyH.nil
        rw [if_pos (by rfl)]
        go_simp
        refine hK.out _ _ ⟨RuAt.range9 HS.out.1, PoAt.range3 HS.out.2.1⟩ (fun hHeld => ?_)
        clear hK K
        (try simp only [Act.put, List.setIfInBounds_toArray, List.set_cons_zero, List.set_cons_succ])
        refine wpAnyH_done (by kernel_rfl) ?_ _
        go_wp2_with fail
        go_meet
        exact ⟨ud.heap.size, _, _, cs, rfl, rfl, HS.out, ⟨Fs.out, hsz, HCs.out, GS.out, (by omega), (by rw [size_scg]; omega), Nat.le_refl _, Nat.zero_le _, Nat.zero_le _⟩⟩
    obtain ⟨A, lo6, hi6, cs6, rfl, rfl, hr, ha⟩ := hcut
    have HRP := Lib.hid hr
    have G6 := Lib.hid ha
    have hl6 := (ha.ok.len _ _ _ _ ha.g).1
    clear hr ha HS
    obtain ⟨wa, hwa⟩ : ∃ x, x = wc := ⟨_, rfl⟩
    subst hwa
    have HB := Lib.hid (Old.mk (Below.refl wa.heap.size wa))
    obtain ⟨hd1, r0, r1, r2⟩ := HRP.out.2.1
    go_upto_region 6 with fail
    go_wp2_with fail
    clear hd1 r0 r1 r2
    refine (toPos_any q1 q2 qn1 qc1 qn2 qc2 qp xs ys _ (H.out.below HRP.out.2.2)).mono ?_
    rintro e w6 ⟨x1, x2, rfl, o6, l61, l62, hb6⟩
    have HB := Lib.hid (HB.out.below hb6)
    have O6 := Lib.hid o6
    clear o6 hb6
    go_wp2_with fail
    have WX := Lib.hid (wat_new 32 qp qn1 qn2 O6.out l61 l62 HB.out.be.size)
    have HB := Lib.hid (HB.out.below (al1 _ (.cells #[.slice (some ⟨x1, 0, none⟩) qn1 qn1, .slice (some ⟨x2, 0, none⟩) qn2 qn2, .int .i64 qp] 32)))
    clear O6 l61 l62
    generalize hD : w6.heap.size = D at *
    generalize hW : w6.alloc (.cells #[.slice (some ⟨x1, 0, none⟩) qn1 qn1, .slice (some ⟨x2, 0, none⟩) qn2 qn2, .int .i64 qp] 32) = w7 at *
    clear hW hD
    go_cut [9, 10] (fun s9 s10 wx => ∃ (C lo hi : Nat) (cs : List Value), s9 = .pointer (some ⟨C, 0, none⟩) ∧ s10 = .int .i64 cd ∧ Old wa wx ∧ WAt wx wa.heap.size (D + 1) D (some ⟨x1, 0, none⟩) (some ⟨x2, 0, none⟩) x1 x2 qn1 qn1 qn2 qn2 qp xs ys ∧ GAt Go wx (D + 1) wx.heap.size lo hi C cs)
    case first =>
      refine wp_region_held_drew (S := fun u => u.rangeAt w.heap.size 0 [.int .i64 p, .int .i64 s, .bool st, .bool sk, .bool re, .bool fe, .bool ag, .int .i64 c, .int .i64 l] ∧ u.rangeAt D 0 [.slice (some ⟨x1, 0, none⟩) qn1 qn1, .slice (some ⟨x2, 0, none⟩) qn2 qn2, .int .i64 qp]) (by kernel_rfl) ⟨RuAt.range9 (HRP.out.1.below HB.out.drew.be), PoAt.range3 WX.out.drew.po⟩ (fun hHeld => ?_)
      have HB := Lib.hid (HB.out.drew)
      have WX := Lib.hid (WX.out.drew)
      generalize World.drew _ = ud at *
      refine wpAnyH_take (i := 0) rfl (by kernel_rfl) (by kernel_rfl) (by kernel_rfl) (fun _ _ _ h => h) (yieldsIf_load_mid (by rfl) 23 _ rfl w.heap.size 0 rfl [.int .i64 p, .int .i64 s, .bool st, .bool sk, .bool re, .bool fe, .bool ag, .int .i64 c, .int .i64 l] _ (fun u hu => hu.1) Try.underlying23 rfl (by kernel_rfl)) hHeld ?_
      simp only [Act.put, List.setIfInBounds_toArray]
      refine wpAnyH_take (i := 2) rfl (by kernel_rfl) (by kernel_rfl) (by kernel_rfl) (fun _ _ _ h => h) (yieldsIf_load_mid (by rfl) 32 _ rfl D 0 rfl [.slice (some ⟨x1, 0, none⟩) qn1 qn1, .slice (some ⟨x2, 0, none⟩) qn2 qn2, .int .i64 qp] _ (fun u hu => hu.2) Try.underlying32 rfl (by kernel_rfl)) hHeld ?_
      simp only [Act.put]
      refine wpAnyH_ready (rs := [1, 7]) (by kernel_rfl) (by simp) ?_
      refine AllReadyH.cons rfl (fun K hK => ?_) (AllReadyH.cons rfl (fun K hK => ?_) AllReadyH.nil)
      · rw [if_pos (by rfl)]
        go_simp
        go_at_call 15
        refine (toRules_any p s c l st sk re fe ag _).mono ?_
        rintro e v1 ⟨rfl, hb⟩
        have HB := Lib.hid (HB.out.below hb)
        have WX := Lib.hid (WX.out.below hb)
        clear hb
        (try dsimp only)
        refine hK.out _ _ ⟨RuAt.range9 (HRP.out.1.below HB.out.be), PoAt.range3 WX.out.po⟩ (fun hHeld => ?_)
        clear hK K
        (try simp only [Act.put, List.setIfInBounds_toArray, List.set_cons_zero, List.set_cons_succ])
        refine wpAnyH_ready (rs := [3, 7]) (by kernel_rfl) (by simp) ?_
        refine AllReadyH.cons rfl (fun K hK => ?_) (AllReadyH.cons rfl (fun K hK => ?_) AllReadyH.nil)
        · have hzm := HB.out.be.size
          have hym := WX.out.hi_le
          rw [if_pos (by rfl)]
          go_simp
          go_at_call 17
          refine (Hi.out _ _ _ _ _ WX.out.o.r).mono ?_
          rintro e v3 ⟨cs, rfl, hg, hb⟩
          have GS := Lib.hid hg
          obtain ⟨hcl, hco⟩ := (Fo.out.len _ _ _ _ hg)
          have hcs : cs.toArray.size = 17 := hcl
          have hhi := hb.size
          clear hg
          have HB := Lib.hid (HB.out.below hb)
          have WX := Lib.hid (WX.out.below hb)
          clear hb
          (try dsimp only)
          refine hK.out _ _ ⟨RuAt.range9 (HRP.out.1.below HB.out.be), PoAt.range3 WX.out.po⟩ (fun hHeld => ?_)
          clear hK K
          (try simp only [Act.put, List.setIfInBounds_toArray, List.set_cons_zero, List.set_cons_succ])
          refine wpAnyH_take (i := 4) (oi := { dst := some 31, op := Op.move (Operand.tmp 35), type := 39, pos := "exact.go:4075", after := #[{ on := 3, ground := Ground.data }], guard := none }) (v := .tuple #[.agg cs.toArray, .int .i64 cd]) rfl (by kernel_rfl) (by kernel_rfl) (by kernel_rfl) (fun _ _ _ h => h) (.inl ⟨by rfl, fun u hu => by (try dsimp only at hu); go_simp; try with_reducible rfl⟩) hHeld ?_
          simp only [Act.put, List.setIfInBounds_toArray, List.set_cons_zero, List.set_cons_succ]
          refine wpAnyH_take (i := 5) (oi := { dst := some 36, op := Op.extract (Operand.tmp 31) 0, type := 34, pos := "exact.go:4075", after := #[{ on := 4, ground := Ground.data }], guard := none }) (v := .agg cs.toArray) rfl (by kernel_rfl) (by kernel_rfl) (by kernel_rfl) (fun _ _ _ h => h) (.inl ⟨by rfl, fun u hu => by (try dsimp only at hu); go_simp; try with_reducible rfl⟩) hHeld ?_
          simp only [Act.put, List.setIfInBounds_toArray, List.set_cons_zero, List.set_cons_succ]
          refine wpAnyH_take (i := 6) (oi := { dst := some 37, op := Op.extract (Operand.tmp 31) 1, type := 2, pos := "exact.go:4075", after := #[{ on := 4, ground := Ground.data }, { on := 8, ground := Ground.gcOnly Departure.lateStores }], guard := none }) (v := .int .i64 cd) rfl (by kernel_rfl) (by kernel_rfl) (by kernel_rfl) (fun _ _ _ h => h) (.inl ⟨by rfl, fun u hu => by (try dsimp only at hu); go_simp; try with_reducible rfl⟩) hHeld ?_
          simp only [Act.put, List.setIfInBounds_toArray, List.set_cons_zero, List.set_cons_succ]
          refine wpAnyH_ready (rs := [7]) (by kernel_rfl) (by simp) ?_
          refine AllReadyH.cons rfl (fun K hK => ?_) AllReadyH.nil
          rw [if_pos (by rfl)]
          go_simp
          have hza := HB.out.be.size
          have hya := WX.out.hi_le
          have hb := al1 v3 (.cells #[.int .i64 0, .int .i64 0, .bool false, .bool false, .bool false, .bool false, .bool false, .int .i64 0, .int .i64 0, .slice none 0 0, .slice none 0 0, .int .i64 0, .slice none 0 0, .slice none 0 0, .slice none 0 0, .int .i64 0, .int .i64 0] 34)
          have HZ := Lib.hid (th_new v3 34)
          have GS := Lib.hid (Fo.out.fr _ _ _ _ _ GS.out (Fr.of_below0 hb))
          have HB := Lib.hid (HB.out.below hb)
          have WX := Lib.hid (WX.out.below hb)
          have hsz2 : v3.heap.size ≤ (v3.alloc (.cells #[.int .i64 0, .int .i64 0, .bool false, .bool false, .bool false, .bool false, .bool false, .int .i64 0, .int .i64 0, .slice none 0 0, .slice none 0 0, .int .i64 0, .slice none 0 0, .slice none 0 0, .slice none 0 0, .int .i64 0, .int .i64 0] 34)).heap.size := hb.size
          change K _ (v3.alloc (.cells #[.int .i64 0, .int .i64 0, .bool false, .bool false, .bool false, .bool false, .bool false, .int .i64 0, .int .i64 0, .slice none 0 0, .slice none 0 0, .int .i64 0, .slice none 0 0, .slice none 0 0, .slice none 0 0, .int .i64 0, .int .i64 0] 34))
          generalize v3.alloc (.cells #[.int .i64 0, .int .i64 0, .bool false, .bool false, .bool false, .bool false, .bool false, .int .i64 0, .int .i64 0, .slice none 0 0, .slice none 0 0, .int .i64 0, .slice none 0 0, .slice none 0 0, .slice none 0 0, .int .i64 0, .int .i64 0] 34) = ua at *
          clear hb
          (try dsimp only)
          refine hK.out _ _ ⟨RuAt.range9 (HRP.out.1.below HB.out.be), PoAt.range3 WX.out.po⟩ (fun hHeld => ?_)
          clear hK K
          (try simp only [Act.put, List.setIfInBounds_toArray, List.set_cons_zero, List.set_cons_succ])
          refine wpAnyH_ready (rs := [8]) (by kernel_rfl) (by simp) ?_
          refine AllReadyH.cons rfl (fun K hK => ?_) AllReadyH.nil
          rw [if_pos (by rfl)]
          refine wp_store_mid 34 _ _ rfl (v3.heap.size) 0 cs.toArray rfl rfl (by rw [hcs]; exact HZ.out.th) (by rw [hcs]; kernel_rfl) (all_oneCell_toArray hco) ?_
          (try simp only [Act.put, List.setIfInBounds_toArray])
          have HB := Lib.hid (Old.mk (below_scg (v3.heap.size) (by omega) cs 0 HB.out.be))
          have WX := Lib.hid (WX.out.but2 (But2.of_l (c := v3.heap.size) (but_scg (v3.heap.size) cs 0 (But.refl _ _))) (.inl (by omega)) (.inl (by omega)))
          have HCs := Lib.hid (World.rangeAt_setCells_same ua (v3.heap.size) 0 cs (by rw [hcl]; exact HZ.out.th))
          have GS := Lib.hid (Fo.out.fr _ _ _ _ _ GS.out (Fr.of_but (but_scg (v3.heap.size) cs 0 (But.refl _ _)) (by omega)))
          have hsz : v3.heap.size < (World.setCells ua (v3.heap.size) 0 cs).heap.size := by rw [size_scg]; exact HZ.out.lt
          (try dsimp only)
          refine hK.out _ _ ⟨RuAt.range9 (HRP.out.1.below HB.out.be), PoAt.range3 WX.out.po⟩ (fun hHeld => ?_)
          clear hK K
          (try simp only [Act.put, List.setIfInBounds_toArray, List.set_cons_zero, List.set_cons_succ])
          refine wpAnyH_ready (rs := [9]) (by kernel_rfl) (by simp) ?_
          refine AllReadyH.cons rfl (fun K hK => ?_) AllReadyH.nil
          rw [if_pos (by rfl)]
          go_simp
          refine hK.out _ _ ⟨RuAt.range9 (HRP.out.1.below HB.out.be), PoAt.range3 WX.out.po⟩ (fun hHeld => ?_)
          clear hK K
          (try simp only [Act.put, List.setIfInBounds_toArray, List.set_cons_zero, List.set_cons_succ])
          refine wpAnyH_done (by kernel_rfl) ?_ _
          go_wp2_with fail
          go_meet
          exact ⟨v3.heap.size, _, _, cs, rfl, rfl, HB.out, WX.out, ⟨Fo.out, hsz, HCs.out, GS.out, (by omega), (by rw [size_scg]; omega), Nat.le_refl _, (by omega), (by omega)⟩⟩
        · rw [if_pos (by rfl)]
          go_simp
          have hza := HB.out.be.size
          have hya := WX.out.hi_le
          have hb := al1 v1 (.cells #[.int .i64 0, .int .i64 0, .bool false, .bool false, .bool false, .bool false, .bool false, .int .i64 0, .int .i64 0, .slice none 0 0, .slice none 0 0, .int .i64 0, .slice none 0 0, .slice none 0 0, .slice none 0 0, .int .i64 0, .int .i64 0] 34)
          have HZ := Lib.hid (th_new v1 34)
          have HB := Lib.hid (HB.out.below hb)
          have WX := Lib.hid (WX.out.below hb)
          change K _ (v1.alloc (.cells #[.int .i64 0, .int .i64 0, .bool false, .bool false, .bool false, .bool false, .bool false, .int .i64 0, .int .i64 0, .slice none 0 0, .slice none 0 0, .int .i64 0, .slice none 0 0, .slice none 0 0, .slice none 0 0, .int .i64 0, .int .i64 0] 34))
          generalize v1.alloc (.cells #[.int .i64 0, .int .i64 0, .bool false, .bool false, .bool false, .bool false, .bool false, .int .i64 0, .int .i64 0, .slice none 0 0, .slice none 0 0, .int .i64 0, .slice none 0 0, .slice none 0 0, .slice none 0 0, .int .i64 0, .int .i64 0] 34) = ua at *
          clear hb
          (try dsimp only)
          refine hK.out _ _ ⟨RuAt.range9 (HRP.out.1.below HB.out.be), PoAt.range3 WX.out.po⟩ (fun hHeld => ?_)
          clear hK K
          (try simp only [Act.put, List.setIfInBounds_toArray, List.set_cons_zero, List.set_cons_succ])
          refine wpAnyH_ready (rs := [3]) (by kernel_rfl) (by simp) ?_
          refine AllReadyH.cons rfl (fun K hK => ?_) AllReadyH.nil
          have hal := HZ.out.lt
          have hzm := HB.out.be.size
          have hym := WX.out.hi_le
          rw [if_pos (by rfl)]
          go_simp
          go_at_call 17
          refine (Hi.out _ _ _ _ _ WX.out.o.r).mono ?_
          rintro e v3 ⟨cs, rfl, hg, hb⟩
          have GS := Lib.hid hg
          obtain ⟨hcl, hco⟩ := (Fo.out.len _ _ _ _ hg)
          have hcs : cs.toArray.size = 17 := hcl
          have hhi := hb.size
          clear hg
          have HB := Lib.hid (HB.out.below hb)
          have WX := Lib.hid (WX.out.below hb)
          have HZ := Lib.hid (HZ.out.below hb)
          clear hb
          (try dsimp only)
          refine hK.out _ _ ⟨RuAt.range9 (HRP.out.1.below HB.out.be), PoAt.range3 WX.out.po⟩ (fun hHeld => ?_)
          clear hK K
          (try simp only [Act.put, List.setIfInBounds_toArray, List.set_cons_zero, List.set_cons_succ])
          refine wpAnyH_take (i := 4) (oi := { dst := some 31, op := Op.move (Operand.tmp 35), type := 39, pos := "exact.go:4075", after := #[{ on := 3, ground := Ground.data }], guard := none }) (v := .tuple #[.agg cs.toArray, .int .i64 cd]) rfl (by kernel_rfl) (by kernel_rfl) (by kernel_rfl) (fun _ _ _ h => h) (.inl ⟨by rfl, fun u hu => by (try dsimp only at hu); go_simp; try with_reducible rfl⟩) hHeld ?_
          simp only [Act.put, List.setIfInBounds_toArray, List.set_cons_zero, List.set_cons_succ]
          refine wpAnyH_take (i := 5) (oi := { dst := some 36, op := Op.extract (Operand.tmp 31) 0, type := 34, pos := "exact.go:4075", after := #[{ on := 4, ground := Ground.data }], guard := none }) (v := .agg cs.toArray) rfl (by kernel_rfl) (by kernel_rfl) (by kernel_rfl) (fun _ _ _ h => h) (.inl ⟨by rfl, fun u hu => by (try dsimp only at hu); go_simp; try with_reducible rfl⟩) hHeld ?_
          simp only [Act.put, List.setIfInBounds_toArray, List.set_cons_zero, List.set_cons_succ]
          refine wpAnyH_take (i := 6) (oi := { dst := some 37, op := Op.extract (Operand.tmp 31) 1, type := 2, pos := "exact.go:4075", after := #[{ on := 4, ground := Ground.data }, { on := 8, ground := Ground.gcOnly Departure.lateStores }], guard := none }) (v := .int .i64 cd) rfl (by kernel_rfl) (by kernel_rfl) (by kernel_rfl) (fun _ _ _ h => h) (.inl ⟨by rfl, fun u hu => by (try dsimp only at hu); go_simp; try with_reducible rfl⟩) hHeld ?_
          simp only [Act.put, List.setIfInBounds_toArray, List.set_cons_zero, List.set_cons_succ]
          refine wpAnyH_ready (rs := [8]) (by kernel_rfl) (by simp) ?_
          refine AllReadyH.cons rfl (fun K hK => ?_) AllReadyH.nil
          rw [if_pos (by rfl)]
          refine wp_store_mid 34 _ _ rfl (v1.heap.size) 0 cs.toArray rfl rfl (by rw [hcs]; exact HZ.out.th) (by rw [hcs]; kernel_rfl) (all_oneCell_toArray hco) ?_
          (try simp only [Act.put, List.setIfInBounds_toArray])
          have HB := Lib.hid (Old.mk (below_scg (v1.heap.size) (by omega) cs 0 HB.out.be))
          have WX := Lib.hid (WX.out.but2 (But2.of_l (c := v1.heap.size) (but_scg (v1.heap.size) cs 0 (But.refl _ _))) (.inl (by omega)) (.inl (by omega)))
          have HCs := Lib.hid (World.rangeAt_setCells_same v3 (v1.heap.size) 0 cs (by rw [hcl]; exact HZ.out.th))
          have GS := Lib.hid (Fo.out.fr _ _ _ _ _ GS.out (Fr.of_but (but_scg (v1.heap.size) cs 0 (But.refl _ _)) (by omega)))
          have hsz : v1.heap.size < (World.setCells v3 (v1.heap.size) 0 cs).heap.size := by rw [size_scg]; exact HZ.out.lt
          (try dsimp only)
          refine hK.out _ _ ⟨RuAt.range9 (HRP.out.1.below HB.out.be), PoAt.range3 WX.out.po⟩ (fun hHeld => ?_)
          clear hK K
          (try simp only [Act.put, List.setIfInBounds_toArray, List.set_cons_zero, List.set_cons_succ])
          refine wpAnyH_ready (rs := [9]) (by kernel_rfl) (by simp) ?_
          refine AllReadyH.cons rfl (fun K hK => ?_) AllReadyH.nil
          rw [if_pos (by rfl)]
          go_simp
          refine hK.out _ _ ⟨RuAt.range9 (HRP.out.1.below HB.out.be), PoAt.range3 WX.out.po⟩ (fun hHeld => ?_)
          clear hK K
          (try simp only [Act.put, List.setIfInBounds_toArray, List.set_cons_zero, List.set_cons_succ])
          refine wpAnyH_done (by kernel_rfl) ?_ _
          go_wp2_with fail
          go_meet
          exact ⟨v1.heap.size, _, _, cs, rfl, rfl, HB.out, WX.out, ⟨Fo.out, hsz, HCs.out, GS.out, (by omega), (by rw [size_scg]; omega), Nat.le_refl _, (by omega), (by omega)⟩⟩
      · rw [if_pos (by rfl)]
        go_simp
        have hza := HB.out.be.size
        have hya := WX.out.hi_le
        have hb := al1 ud (.cells #[.int .i64 0, .int .i64 0, .bool false, .bool false, .bool false, .bool false, .bool false, .int .i64 0, .int .i64 0, .slice none 0 0, .slice none 0 0, .int .i64 0, .slice none 0 0, .slice none 0 0, .slice none 0 0, .int .i64 0, .int .i64 0] 34)
        have HZ := Lib.hid (th_new ud 34)
        have HB := Lib.hid (HB.out.below hb)
        have WX := Lib.hid (WX.out.below hb)
        change K _ (ud.alloc (.cells #[.int .i64 0, .int .i64 0, .bool false, .bool false, .bool false, .bool false, .bool false, .int .i64 0, .int .i64 0, .slice none 0 0, .slice none 0 0, .int .i64 0, .slice none 0 0, .slice none 0 0, .slice none 0 0, .int .i64 0, .int .i64 0] 34))
        generalize ud.alloc (.cells #[.int .i64 0, .int .i64 0, .bool false, .bool false, .bool false, .bool false, .bool false, .int .i64 0, .int .i64 0, .slice none 0 0, .slice none 0 0, .int .i64 0, .slice none 0 0, .slice none 0 0, .slice none 0 0, .int .i64 0, .int .i64 0] 34) = ua at *
        clear hb
        (try dsimp only)
        refine hK.out _ _ ⟨RuAt.range9 (HRP.out.1.below HB.out.be), PoAt.range3 WX.out.po⟩ (fun hHeld => ?_)
        clear hK K
        (try simp only [Act.put, List.setIfInBounds_toArray, List.set_cons_zero, List.set_cons_succ])
        refine wpAnyH_ready (rs := [1]) (by kernel_rfl) (by simp) ?_
        refine AllReadyH.cons rfl (fun K hK => ?_) AllReadyH.nil
        rw [if_pos (by rfl)]
        go_simp
        go_at_call 15
        refine (toRules_any p s c l st sk re fe ag _).mono ?_
        rintro e v1 ⟨rfl, hb⟩
        have HB := Lib.hid (HB.out.below hb)
        have WX := Lib.hid (WX.out.below hb)
        have HZ := Lib.hid (HZ.out.below hb)
        clear hb
        (try dsimp only)
        refine hK.out _ _ ⟨RuAt.range9 (HRP.out.1.below HB.out.be), PoAt.range3 WX.out.po⟩ (fun hHeld => ?_)
        clear hK K
        (try simp only [Act.put, List.setIfInBounds_toArray, List.set_cons_zero, List.set_cons_succ])
        refine wpAnyH_ready (rs := [3]) (by kernel_rfl) (by simp) ?_
        refine AllReadyH.cons rfl (fun K hK => ?_) AllReadyH.nil
        have hal := HZ.out.lt
        have hzm := HB.out.be.size
        have hym := WX.out.hi_le
        rw [if_pos (by rfl)]
        go_simp
        go_at_call 17
        refine (Hi.out _ _ _ _ _ WX.out.o.r).mono ?_
        rintro e v3 ⟨cs, rfl, hg, hb⟩
        have GS := Lib.hid hg
        obtain ⟨hcl, hco⟩ := (Fo.out.len _ _ _ _ hg)
        have hcs : cs.toArray.size = 17 := hcl
        have hhi := hb.size
        clear hg
        have HB := Lib.hid (HB.out.below hb)
        have WX := Lib.hid (WX.out.below hb)
        have HZ := Lib.hid (HZ.out.below hb)
        clear hb
        (try dsimp only)
        refine hK.out _ _ ⟨RuAt.range9 (HRP.out.1.below HB.out.be), PoAt.range3 WX.out.po⟩ (fun hHeld => ?_)
        clear hK K
        (try simp only [Act.put, List.setIfInBounds_toArray, List.set_cons_zero, List.set_cons_succ])
        refine wpAnyH_take (i := 4) (oi := { dst := some 31, op := Op.move (Operand.tmp 35), type := 39, pos := "exact.go:4075", after := #[{ on := 3, ground := Ground.data }], guard := none }) (v := .tuple #[.agg cs.toArray, .int .i64 cd]) rfl (by kernel_rfl) (by kernel_rfl) (by kernel_rfl) (fun _ _ _ h => h) (.inl ⟨by rfl, fun u hu => by (try dsimp only at hu); go_simp; try with_reducible rfl⟩) hHeld ?_
        simp only [Act.put, List.setIfInBounds_toArray, List.set_cons_zero, List.set_cons_succ]
        refine wpAnyH_take (i := 5) (oi := { dst := some 36, op := Op.extract (Operand.tmp 31) 0, type := 34, pos := "exact.go:4075", after := #[{ on := 4, ground := Ground.data }], guard := none }) (v := .agg cs.toArray) rfl (by kernel_rfl) (by kernel_rfl) (by kernel_rfl) (fun _ _ _ h => h) (.inl ⟨by rfl, fun u hu => by (try dsimp only at hu); go_simp; try with_reducible rfl⟩) hHeld ?_
        simp only [Act.put, List.setIfInBounds_toArray, List.set_cons_zero, List.set_cons_succ]
        refine wpAnyH_take (i := 6) (oi := { dst := some 37, op := Op.extract (Operand.tmp 31) 1, type := 2, pos := "exact.go:4075", after := #[{ on := 4, ground := Ground.data }, { on := 8, ground := Ground.gcOnly Departure.lateStores }], guard := none }) (v := .int .i64 cd) rfl (by kernel_rfl) (by kernel_rfl) (by kernel_rfl) (fun _ _ _ h => h) (.inl ⟨by rfl, fun u hu => by (try dsimp only at hu); go_simp; try with_reducible rfl⟩) hHeld ?_
        simp only [Act.put, List.setIfInBounds_toArray, List.set_cons_zero, List.set_cons_succ]
        refine wpAnyH_ready (rs := [8]) (by kernel_rfl) (by simp) ?_
        refine AllReadyH.cons rfl (fun K hK => ?_) AllReadyH.nil
        rw [if_pos (by rfl)]
        refine wp_store_mid 34 _ _ rfl (ud.heap.size) 0 cs.toArray rfl rfl (by rw [hcs]; exact HZ.out.th) (by rw [hcs]; kernel_rfl) (all_oneCell_toArray hco) ?_
        (try simp only [Act.put, List.setIfInBounds_toArray])
        have HB := Lib.hid (Old.mk (below_scg (ud.heap.size) (by omega) cs 0 HB.out.be))
        have WX := Lib.hid (WX.out.but2 (But2.of_l (c := ud.heap.size) (but_scg (ud.heap.size) cs 0 (But.refl _ _))) (.inl (by omega)) (.inl (by omega)))
        have HCs := Lib.hid (World.rangeAt_setCells_same v3 (ud.heap.size) 0 cs (by rw [hcl]; exact HZ.out.th))
        have GS := Lib.hid (Fo.out.fr _ _ _ _ _ GS.out (Fr.of_but (but_scg (ud.heap.size) cs 0 (But.refl _ _)) (by omega)))
        have hsz : ud.heap.size < (World.setCells v3 (ud.heap.size) 0 cs).heap.size := by rw [size_scg]; exact HZ.out.lt
        (try dsimp only)
        refine hK.out _ _ ⟨RuAt.range9 (HRP.out.1.below HB.out.be), PoAt.range3 WX.out.po⟩ (fun hHeld => ?_)
        clear hK K
        (try simp only [Act.put, List.setIfInBounds_toArray, List.set_cons_zero, List.set_cons_succ])
        refine wpAnyH_ready (rs := [9]) (by kernel_rfl) (by simp) ?_
        refine AllReadyH.cons rfl (fun K hK => ?_) AllReadyH.nil
        rw [if_pos (by rfl)]
        go_simp
        refine hK.out _ _ ⟨RuAt.range9 (HRP.out.1.below HB.out.be), PoAt.range3 WX.out.po⟩ (fun hHeld => ?_)
        clear hK K
        (try simp only [Act.put, List.setIfInBounds_toArray, List.set_cons_zero, List.set_cons_succ])
        refine wpAnyH_done (by kernel_rfl) ?_ _
        go_wp2_with fail
        go_meet
        exact ⟨ud.heap.size, _, _, cs, rfl, rfl, HB.out, WX.out, ⟨Fo.out, hsz, HCs.out, GS.out, (by omega), (by rw [size_scg]; omega), Nat.le_refl _, (by omega), (by omega)⟩⟩
    obtain ⟨C, lo9, hi9, cs9, rfl, rfl, hb, hx, hg⟩ := hcut
    have HB := Lib.hid hb
    have WX := Lib.hid hx
    obtain ⟨E9, hE9⟩ : ∃ x, wc.heap.size = x := ⟨_, rfl⟩
    rw [hE9] at hg
    have GC := Lib.hid hg
    have hl9 := (hg.ok.len _ _ _ _ hg.g).1
    clear hb hx hg hE9
    go_upto_region 8 with fail
    go_step
    refine wpList_load_mid rfl 34 (.tmp 9) rfl C 0 rfl cs9 _ GC.out.rg Try.underlying34 rfl (by rw [hl9]; kernel_rfl) ?_
    simp only [Act.put, List.setIfInBounds_toArray, List.set_cons_zero, List.set_cons_succ]
    refine wpList_load_mid rfl 34 (.tmp 6) rfl A 0 rfl cs6 _ (G6.out.below HB.out.be).rg Try.underlying34 rfl (by rw [hl6]; kernel_rfl) ?_
    simp only [Act.put, List.setIfInBounds_toArray, List.set_cons_zero, List.set_cons_succ]
    go_wp2_with fail
    refine (He.out _ _ _ _ _ _ _ GC.out.g (G6.out.below HB.out.be).g).mono ?_
    rintro e w8 ⟨rfl, hb8⟩
    (first | have HB := Lib.hid (HB.out.below hb8) | have HB := Lib.hid (HB.out.drew.below hb8) | have HB := Lib.hid ((HB.out.below (al1 _ _)).below hb8) | have HB := Lib.hid ((HB.out.below (al1 _ _)).drew.below hb8)); (first | have WX := Lib.hid (WX.out.below hb8) | have WX := Lib.hid (WX.out.drew.below hb8) | have WX := Lib.hid ((WX.out.below (al1 _ _)).below hb8) | have WX := Lib.hid ((WX.out.below (al1 _ _)).drew.below hb8)); (first | have GC := Lib.hid (GC.out.below hb8) | have GC := Lib.hid (GC.out.drew.below hb8) | have GC := Lib.hid ((GC.out.below (al1 _ _)).below hb8) | have GC := Lib.hid ((GC.out.below (al1 _ _)).drew.below hb8))
    clear hb8
    have HS := Lib.hid (HRP.out.below HB.out.be)
    go_upto_region 10 with fail
    have HT : Hid (∀ u : World, RpAt w p s c l st sk re fe ag q1 q2 qn1 qc1 qn2 qc2 qp u → WAt u wa.heap.size (D + 1) D (some ⟨x1, 0, none⟩) (some ⟨x2, 0, none⟩) x1 x2 qn1 qn1 qn2 qn2 qp xs ys → (w.heap.size + 1 < u.heap.size ∧ u.cell? ⟨w.heap.size + 1, 0, none⟩ = some (.slice q1 qn1 qc1) ∧ u.cell? ⟨w.heap.size + 1, 1, none⟩ = some (.slice q2 qn2 qc2) ∧ u.cell? ⟨w.heap.size + 1, 2, none⟩ = some (.int .i64 qp)) ∧ (D < u.heap.size ∧ u.cell? ⟨D, 0, none⟩ = some (.slice (some ⟨x1, 0, none⟩) qn1 qn1) ∧ u.cell? ⟨D, 1, none⟩ = some (.slice (some ⟨x2, 0, none⟩) qn2 qn2) ∧ u.cell? ⟨D, 2, none⟩ = some (.int .i64 qp)) ∧ Below w.heap.size w u) := Lib.hid (fun u h k => ⟨h.2.1, k.po, h.2.2⟩)
    go_region_held3 (fun u => (w.heap.size + 1 < u.heap.size ∧ u.cell? ⟨w.heap.size + 1, 0, none⟩ = some (.slice q1 qn1 qc1) ∧ u.cell? ⟨w.heap.size + 1, 1, none⟩ = some (.slice q2 qn2 qc2) ∧ u.cell? ⟨w.heap.size + 1, 2, none⟩ = some (.int .i64 qp)) ∧ (D < u.heap.size ∧ u.cell? ⟨D, 0, none⟩ = some (.slice (some ⟨x1, 0, none⟩) qn1 qn1) ∧ u.cell? ⟨D, 1, none⟩ = some (.slice (some ⟨x2, 0, none⟩) qn2 qn2) ∧ u.cell? ⟨D, 2, none⟩ = some (.int .i64 qp)) ∧ Below w.heap.size w u) (first | exact HT.out _ HS.out WX.out | exact HT.out _ HS.out.drew WX.out.drew)
      (first
      | (go_at_call 16; (with_reducible refine (toPos_any q1 q2 qn1 qc1 qn2 qc2 qp xs ys _ ?_).mono ?_); (first | exact H.out.below HS.out.2.2 | exact H.out.below HS.out.drew.2.2); rintro e w5 ⟨g1, g2, rfl, o5, l51, l52, hb5⟩; have O5 := Lib.hid o5.r; (first | have HS := Lib.hid (HS.out.below hb5) | have HS := Lib.hid (HS.out.drew.below hb5) | have HS := Lib.hid ((HS.out.below (al1 _ _)).below hb5) | have HS := Lib.hid ((HS.out.below (al1 _ _)).drew.below hb5)); (first | have HB := Lib.hid (HB.out.below hb5) | have HB := Lib.hid (HB.out.drew.below hb5) | have HB := Lib.hid ((HB.out.below (al1 _ _)).below hb5) | have HB := Lib.hid ((HB.out.below (al1 _ _)).drew.below hb5)); (first | have WX := Lib.hid (WX.out.below hb5) | have WX := Lib.hid (WX.out.drew.below hb5) | have WX := Lib.hid ((WX.out.below (al1 _ _)).below hb5) | have WX := Lib.hid ((WX.out.below (al1 _ _)).drew.below hb5)); (first | have GC := Lib.hid (GC.out.below hb5) | have GC := Lib.hid (GC.out.drew.below hb5) | have GC := Lib.hid ((GC.out.below (al1 _ _)).below hb5) | have GC := Lib.hid ((GC.out.below (al1 _ _)).drew.below hb5)); clear hb5 o5)
      | (go_at_call 18; (with_reducible refine (eqP_same _ _ _ _ _ _ _ _ _ _ _ xs ys _ ?_ O5.out).mono ?_); (first | exact WX.out.o.r | exact WX.out.drew.o.r); rintro e w9 ⟨rfl, hb9⟩; (first | have HS := Lib.hid (HS.out.below hb9) | have HS := Lib.hid (HS.out.drew.below hb9) | have HS := Lib.hid ((HS.out.below (al1 _ _)).below hb9) | have HS := Lib.hid ((HS.out.below (al1 _ _)).drew.below hb9)); (first | have HB := Lib.hid (HB.out.below hb9) | have HB := Lib.hid (HB.out.drew.below hb9) | have HB := Lib.hid ((HB.out.below (al1 _ _)).below hb9) | have HB := Lib.hid ((HB.out.below (al1 _ _)).drew.below hb9)); (first | have WX := Lib.hid (WX.out.below hb9) | have WX := Lib.hid (WX.out.drew.below hb9) | have WX := Lib.hid ((WX.out.below (al1 _ _)).below hb9) | have WX := Lib.hid ((WX.out.below (al1 _ _)).drew.below hb9)); (first | have GC := Lib.hid (GC.out.below hb9) | have GC := Lib.hid (GC.out.drew.below hb9) | have GC := Lib.hid ((GC.out.below (al1 _ _)).below hb9) | have GC := Lib.hid ((GC.out.below (al1 _ _)).drew.below hb9)); clear hb9))
    clear HT O5
    obtain ⟨hd1, r0, r1, r2⟩ := WX.out.po
    go_wp2_with fail
    clear hd1 r0 r1 r2
    obtain ⟨MX, hMX⟩ : ∃ M : Int, M = ((1 + qn1 + qn2 : Nat) : Int) := ⟨_, rfl⟩
    have qx : ¬ MX < 0 := by omega
    have HMX := Lib.hid hMX
    clear hMX
    have hx4 := WX.out.lo_le
    have hx5 := WX.out.o.o1.new
    have hx6 := WX.out.o.o2.new
    have hx7 := WX.out.lt1
    have hx8 := WX.out.lt2
    have hx9 := WX.out.o.ne
    have hg9 := HB.out.be.size
    have hx10 := WX.out.hi_le
    refine (markP_any wa.heap.size x1 x2 _ _ qn1 qn2 qn1 qn2 1 qp xs ys _ WX.out.o hg9 ⟨by omega, by omega⟩ (by omega) (by omega)).mono ?_
    rintro e w10 ⟨rfl, hbb, hpo⟩
    rw [← HMX.out]
    have HB := Lib.hid (Old.mk (hbb.below HB.out.be hx5 hx6 hg9))
    have GC := Lib.hid (GC.out.fr (Fr.of_but2 hbb (.inl hx7) (.inl hx8)))
    clear hbb hpo hg9 WX HS hx10
    go_wp2_with (first | (refine wpList_load_wantG (by rfl) 34 (.tmp 9) rfl C 0 rfl cs9 _ GC.out.rg Try.underlying34 rfl (by rw [hl9]; kernel_rfl) ?_) | (refine wpList_load_wantG (by rfl) 34 (.tmp 6) rfl A 0 rfl cs6 _ (G6.out.below HB.out.be).rg Try.underlying34 rfl (by rw [hl6]; kernel_rfl) ?_) | (simp only))
    refine (He.out _ _ _ _ _ _ _ GC.out.g (G6.out.below HB.out.be).g).mono ?_
    rintro e w11 ⟨rfl, hb8⟩
    (first | have HB := Lib.hid (HB.out.below hb8) | have HB := Lib.hid (HB.out.drew.below hb8) | have HB := Lib.hid ((HB.out.below (al1 _ _)).below hb8) | have HB := Lib.hid ((HB.out.below (al1 _ _)).drew.below hb8)); (first | have GC := Lib.hid (GC.out.below hb8) | have GC := Lib.hid (GC.out.drew.below hb8) | have GC := Lib.hid ((GC.out.below (al1 _ _)).below hb8) | have GC := Lib.hid ((GC.out.below (al1 _ _)).drew.below hb8))
    clear hb8
    go_upto_region 17 with fail
    go_step
    refine wpList_load_mid rfl 34 (.tmp 9) rfl C 0 rfl cs9 _ GC.out.rg Try.underlying34 rfl (by rw [hl9]; kernel_rfl) ?_
    simp only [Act.put, List.setIfInBounds_toArray, List.set_cons_zero, List.set_cons_succ]
    go_wp2_with fail
    have hc1 := GC.out.hE
    have hc2 := GC.out.le
    have hc3 := GC.out.bl
    have hc4 := GC.out.lt
    have hc5 := GC.out.bA
    have hc6 := HB.out.be.size
    refine (Hm.out lo9 hi9 x1 x2 cs9 _ GC.out.g (by omega) (by omega) (by omega) hx9).mono ?_
    rintro e w12 ⟨rfl, mk⟩
    have HB := Lib.hid (Old.mk (mk.below (B := wa.heap.size) hx5 hx6 (by omega) hc6 HB.out.be))
    have GP := Lib.hid (show GAt Gm w12 (D + 1) E9 lo9 hi9 C cs9 from ⟨Fm.out, hc4, mk.range (by omega) (by omega) (by omega) GC.out.ne GC.out.rg, mk.g, GC.out.ne, hc1, Nat.le_trans hc2 mk.size, hc5, hc3⟩)
    clear mk GC hx4 hx5 hx6 hx7 hx8 hx9 hc1 hc2 hc3 hc4 hc5 hc6
    go_upto_region 19 with fail
    go_step
    refine wpList_load_mid rfl 34 (.tmp 9) rfl C 0 rfl cs9 _ GP.out.rg Try.underlying34 rfl (by rw [hl9]; kernel_rfl) ?_
    simp only [Act.put, List.setIfInBounds_toArray, List.set_cons_zero, List.set_cons_succ]
    go_wp2_with fail
    refine (Hh.out _ _ _ _ GP.out.g).mono ?_
    rintro e w13 ⟨rfl, hb8⟩
    (first | have HB := Lib.hid (HB.out.below hb8) | have HB := Lib.hid (HB.out.drew.below hb8) | have HB := Lib.hid ((HB.out.below (al1 _ _)).below hb8) | have HB := Lib.hid ((HB.out.below (al1 _ _)).drew.below hb8)); (first | have GP := Lib.hid (GP.out.below hb8) | have GP := Lib.hid (GP.out.drew.below hb8) | have GP := Lib.hid ((GP.out.below (al1 _ _)).below hb8) | have GP := Lib.hid ((GP.out.below (al1 _ _)).drew.below hb8))
    clear hb8
    go_upto_region 24 with fail
    go_cut [14, 15] (fun s14 s15 wx => ∃ (F lo hi : Nat) (cs : List Value), s14 = .pointer (some ⟨F, 0, none⟩) ∧ s15 = .int .i64 cd ∧ Old wa wx ∧ GAt Gm wx (D + 1) E9 lo9 hi9 C cs9 ∧ GAt Go wx 0 wx.heap.size lo hi F cs)
    case first =>
      refine wp_region_held_drew (S := fun u => u.rangeAt w.heap.size 0 [.int .i64 p, .int .i64 s, .bool st, .bool sk, .bool re, .bool fe, .bool ag, .int .i64 c, .int .i64 l] ∧ u.rangeAt (w.heap.size + 1) 0 [.slice q1 qn1 qc1, .slice q2 qn2 qc2, .int .i64 qp]) (by kernel_rfl) ⟨RuAt.range9 (HRP.out.1.below HB.out.drew.be), PoAt.range3 (HRP.out.2.1.below HB.out.drew.be)⟩ (fun hHeld => ?_)
      have HB := Lib.hid (HB.out.drew)
      have GP := Lib.hid (GP.out.drew)
      generalize World.drew _ = ud at *
      refine wpAnyH_take (i := 0) rfl (by kernel_rfl) (by kernel_rfl) (by kernel_rfl) (fun _ _ _ h => h) (yieldsIf_load_mid (by rfl) 23 _ rfl w.heap.size 0 rfl [.int .i64 p, .int .i64 s, .bool st, .bool sk, .bool re, .bool fe, .bool ag, .int .i64 c, .int .i64 l] _ (fun u hu => hu.1) Try.underlying23 rfl (by kernel_rfl)) hHeld ?_
      simp only [Act.put, List.setIfInBounds_toArray]
      refine wpAnyH_take (i := 2) rfl (by kernel_rfl) (by kernel_rfl) (by kernel_rfl) (fun _ _ _ h => h) (yieldsIf_load_mid (by rfl) 26 _ rfl (w.heap.size + 1) 0 rfl [.slice q1 qn1 qc1, .slice q2 qn2 qc2, .int .i64 qp] _ (fun u hu => hu.2) Try.underlying26 rfl (by kernel_rfl)) hHeld ?_
      simp only [Act.put]
      refine wpAnyH_ready (rs := [1, 8]) (by kernel_rfl) (by simp) ?_
      refine AllReadyH.cons rfl (fun K hK => ?_) (AllReadyH.cons rfl (fun K hK => ?_) AllReadyH.nil)
      · rw [if_pos (by rfl)]
        go_simp
        go_at_call 15
        refine (toRules_any p s c l st sk re fe ag _).mono ?_
        rintro e v1 ⟨rfl, hb⟩
        have HB := Lib.hid (HB.out.below hb)
        have GP := Lib.hid (GP.out.below hb)
        clear hb
        (try dsimp only)
        refine hK.out _ _ ⟨RuAt.range9 (HRP.out.1.below HB.out.be), PoAt.range3 (HRP.out.2.1.below HB.out.be)⟩ (fun hHeld => ?_)
        clear hK K
        (try simp only [Act.put, List.setIfInBounds_toArray, List.set_cons_zero, List.set_cons_succ])
        refine wpAnyH_ready (rs := [3, 8]) (by kernel_rfl) (by simp) ?_
        refine AllReadyH.cons rfl (fun K hK => ?_) (AllReadyH.cons rfl (fun K hK => ?_) AllReadyH.nil)
        · rw [if_pos (by rfl)]
          go_simp
          go_at_call 16
          refine (toPos_any q1 q2 qn1 qc1 qn2 qc2 qp xs ys _ (H.out.below (HRP.out.2.2.trans (HB.out.be.mono HRP.out.2.2.size)))).mono ?_
          rintro e v3 ⟨g1, g2, rfl, o, lo1, lo2, hb⟩
          have OP := Lib.hid o.r
          clear o lo1 lo2
          have HB := Lib.hid (HB.out.below hb)
          have GP := Lib.hid (GP.out.below hb)
          clear hb
          (try dsimp only)
          refine hK.out _ _ ⟨RuAt.range9 (HRP.out.1.below HB.out.be), PoAt.range3 (HRP.out.2.1.below HB.out.be)⟩ (fun hHeld => ?_)
          clear hK K
          (try simp only [Act.put, List.setIfInBounds_toArray, List.set_cons_zero, List.set_cons_succ])
          refine wpAnyH_ready (rs := [4, 8]) (by kernel_rfl) (by simp) ?_
          refine AllReadyH.cons rfl (fun K hK => ?_) (AllReadyH.cons rfl (fun K hK => ?_) AllReadyH.nil)
          · have hzm := HB.out.be.size
            have hym := GP.out.le
            rw [if_pos (by rfl)]
            go_simp
            go_at_call 17
            refine (Hi.out _ _ _ _ _ OP.out).mono ?_
            rintro e v4 ⟨cs, rfl, hg, hb⟩
            have GS := Lib.hid hg
            obtain ⟨hcl, hco⟩ := (Fo.out.len _ _ _ _ hg)
            have hcs : cs.toArray.size = 17 := hcl
            have hhi := hb.size
            clear hg
            have HB := Lib.hid (HB.out.below hb)
            have GP := Lib.hid (GP.out.below hb)
            have OP := Lib.hid (OP.out.below hb)
            clear hb
            (try dsimp only)
            refine hK.out _ _ ⟨RuAt.range9 (HRP.out.1.below HB.out.be), PoAt.range3 (HRP.out.2.1.below HB.out.be)⟩ (fun hHeld => ?_)
            clear hK K
            (try simp only [Act.put, List.setIfInBounds_toArray, List.set_cons_zero, List.set_cons_succ])
            refine wpAnyH_take (i := 5) (oi := { dst := some 79, op := Op.move (Operand.tmp 84), type := 39, pos := "exact.go:4097", after := #[{ on := 4, ground := Ground.data }], guard := none }) (v := .tuple #[.agg cs.toArray, .int .i64 cd]) rfl (by kernel_rfl) (by kernel_rfl) (by kernel_rfl) (fun _ _ _ h => h) (.inl ⟨by rfl, fun u hu => by (try dsimp only at hu); go_simp; try with_reducible rfl⟩) hHeld ?_
            simp only [Act.put, List.setIfInBounds_toArray, List.set_cons_zero, List.set_cons_succ]
            refine wpAnyH_take (i := 6) (oi := { dst := some 85, op := Op.extract (Operand.tmp 79) 0, type := 34, pos := "exact.go:4097", after := #[{ on := 5, ground := Ground.data }], guard := none }) (v := .agg cs.toArray) rfl (by kernel_rfl) (by kernel_rfl) (by kernel_rfl) (fun _ _ _ h => h) (.inl ⟨by rfl, fun u hu => by (try dsimp only at hu); go_simp; try with_reducible rfl⟩) hHeld ?_
            simp only [Act.put, List.setIfInBounds_toArray, List.set_cons_zero, List.set_cons_succ]
            refine wpAnyH_take (i := 7) (oi := { dst := some 86, op := Op.extract (Operand.tmp 79) 1, type := 2, pos := "exact.go:4097", after := #[{ on := 5, ground := Ground.data }, { on := 9, ground := Ground.gcOnly Departure.lateStores }], guard := none }) (v := .int .i64 cd) rfl (by kernel_rfl) (by kernel_rfl) (by kernel_rfl) (fun _ _ _ h => h) (.inl ⟨by rfl, fun u hu => by (try dsimp only at hu); go_simp; try with_reducible rfl⟩) hHeld ?_
            simp only [Act.put, List.setIfInBounds_toArray, List.set_cons_zero, List.set_cons_succ]
            refine wpAnyH_ready (rs := [8]) (by kernel_rfl) (by simp) ?_
            refine AllReadyH.cons rfl (fun K hK => ?_) AllReadyH.nil
            rw [if_pos (by rfl)]
            go_simp
            have hza := HB.out.be.size
            have hya := GP.out.le
            have hb := al1 v4 (.cells #[.int .i64 0, .int .i64 0, .bool false, .bool false, .bool false, .bool false, .bool false, .int .i64 0, .int .i64 0, .slice none 0 0, .slice none 0 0, .int .i64 0, .slice none 0 0, .slice none 0 0, .slice none 0 0, .int .i64 0, .int .i64 0] 34)
            have HZ := Lib.hid (th_new v4 34)
            have GS := Lib.hid (Fo.out.fr _ _ _ _ _ GS.out (Fr.of_below0 hb))
            have HB := Lib.hid (HB.out.below hb)
            have GP := Lib.hid (GP.out.below hb)
            have OP := Lib.hid (OP.out.below hb)
            have hsz2 : v4.heap.size ≤ (v4.alloc (.cells #[.int .i64 0, .int .i64 0, .bool false, .bool false, .bool false, .bool false, .bool false, .int .i64 0, .int .i64 0, .slice none 0 0, .slice none 0 0, .int .i64 0, .slice none 0 0, .slice none 0 0, .slice none 0 0, .int .i64 0, .int .i64 0] 34)).heap.size := hb.size
            change K _ (v4.alloc (.cells #[.int .i64 0, .int .i64 0, .bool false, .bool false, .bool false, .bool false, .bool false, .int .i64 0, .int .i64 0, .slice none 0 0, .slice none 0 0, .int .i64 0, .slice none 0 0, .slice none 0 0, .slice none 0 0, .int .i64 0, .int .i64 0] 34))
            generalize v4.alloc (.cells #[.int .i64 0, .int .i64 0, .bool false, .bool false, .bool false, .bool false, .bool false, .int .i64 0, .int .i64 0, .slice none 0 0, .slice none 0 0, .int .i64 0, .slice none 0 0, .slice none 0 0, .slice none 0 0, .int .i64 0, .int .i64 0] 34) = ua at *
            clear hb
            (try dsimp only)
            refine hK.out _ _ ⟨RuAt.range9 (HRP.out.1.below HB.out.be), PoAt.range3 (HRP.out.2.1.below HB.out.be)⟩ (fun hHeld => ?_)
            clear hK K
            (try simp only [Act.put, List.setIfInBounds_toArray, List.set_cons_zero, List.set_cons_succ])
            refine wpAnyH_ready (rs := [9]) (by kernel_rfl) (by simp) ?_
            refine AllReadyH.cons rfl (fun K hK => ?_) AllReadyH.nil
            rw [if_pos (by rfl)]
            refine wp_store_mid 34 _ _ rfl (v4.heap.size) 0 cs.toArray rfl rfl (by rw [hcs]; exact HZ.out.th) (by rw [hcs]; kernel_rfl) (all_oneCell_toArray hco) ?_
            (try simp only [Act.put, List.setIfInBounds_toArray])
            have HB := Lib.hid (Old.mk (below_scg (v4.heap.size) (by omega) cs 0 HB.out.be))
            have GP := Lib.hid (GP.out.fr (Fr.of_but (but_scg (v4.heap.size) cs 0 (But.refl _ _)) (.inr (by omega))))
            have HCs := Lib.hid (World.rangeAt_setCells_same ua (v4.heap.size) 0 cs (by rw [hcl]; exact HZ.out.th))
            have GS := Lib.hid (Fo.out.fr _ _ _ _ _ GS.out (Fr.of_but (but_scg (v4.heap.size) cs 0 (But.refl _ _)) (by omega)))
            have hsz : v4.heap.size < (World.setCells ua (v4.heap.size) 0 cs).heap.size := by rw [size_scg]; exact HZ.out.lt
            (try dsimp only)
            refine hK.out _ _ ⟨RuAt.range9 (HRP.out.1.below HB.out.be), PoAt.range3 (HRP.out.2.1.below HB.out.be)⟩ (fun hHeld => ?_)
            clear hK K
            (try simp only [Act.put, List.setIfInBounds_toArray, List.set_cons_zero, List.set_cons_succ])
            refine wpAnyH_ready (rs := [10]) (by kernel_rfl) (by simp) ?_
            refine AllReadyH.cons rfl (fun K hK => ?_) AllReadyH.nil
            rw [if_pos (by rfl)]
            go_simp
            refine hK.out _ _ ⟨RuAt.range9 (HRP.out.1.below HB.out.be), PoAt.range3 (HRP.out.2.1.below HB.out.be)⟩ (fun hHeld => ?_)
            clear hK K
            (try simp only [Act.put, List.setIfInBounds_toArray, List.set_cons_zero, List.set_cons_succ])
            refine wpAnyH_done (by kernel_rfl) ?_ _
            go_wp2_with fail
            go_meet
            exact ⟨v4.heap.size, _, _, cs, rfl, rfl, HB.out, GP.out, ⟨Fo.out, hsz, HCs.out, GS.out, (by omega), (by rw [size_scg]; omega), Nat.le_refl _, Nat.zero_le _, Nat.zero_le _⟩⟩
          · rw [if_pos (by rfl)]
            go_simp
            have hza := HB.out.be.size
            have hya := GP.out.le
            have hb := al1 v3 (.cells #[.int .i64 0, .int .i64 0, .bool false, .bool false, .bool false, .bool false, .bool false, .int .i64 0, .int .i64 0, .slice none 0 0, .slice none 0 0, .int .i64 0, .slice none 0 0, .slice none 0 0, .slice none 0 0, .int .i64 0, .int .i64 0] 34)
            have HZ := Lib.hid (th_new v3 34)
            have HB := Lib.hid (HB.out.below hb)
            have GP := Lib.hid (GP.out.below hb)
            have OP := Lib.hid (OP.out.below hb)
            change K _ (v3.alloc (.cells #[.int .i64 0, .int .i64 0, .bool false, .bool false, .bool false, .bool false, .bool false, .int .i64 0, .int .i64 0, .slice none 0 0, .slice none 0 0, .int .i64 0, .slice none 0 0, .slice none 0 0, .slice none 0 0, .int .i64 0, .int .i64 0] 34))
            generalize v3.alloc (.cells #[.int .i64 0, .int .i64 0, .bool false, .bool false, .bool false, .bool false, .bool false, .int .i64 0, .int .i64 0, .slice none 0 0, .slice none 0 0, .int .i64 0, .slice none 0 0, .slice none 0 0, .slice none 0 0, .int .i64 0, .int .i64 0] 34) = ua at *
            clear hb
            (try dsimp only)
            refine hK.out _ _ ⟨RuAt.range9 (HRP.out.1.below HB.out.be), PoAt.range3 (HRP.out.2.1.below HB.out.be)⟩ (fun hHeld => ?_)
            clear hK K
            (try simp only [Act.put, List.setIfInBounds_toArray, List.set_cons_zero, List.set_cons_succ])
            refine wpAnyH_ready (rs := [4]) (by kernel_rfl) (by simp) ?_
            refine AllReadyH.cons rfl (fun K hK => ?_) AllReadyH.nil
            have hal := HZ.out.lt
            have hzm := HB.out.be.size
            have hym := GP.out.le
            rw [if_pos (by rfl)]
            go_simp
            go_at_call 17
            refine (Hi.out _ _ _ _ _ OP.out).mono ?_
            rintro e v4 ⟨cs, rfl, hg, hb⟩
            have GS := Lib.hid hg
            obtain ⟨hcl, hco⟩ := (Fo.out.len _ _ _ _ hg)
            have hcs : cs.toArray.size = 17 := hcl
            have hhi := hb.size
            clear hg
            have HB := Lib.hid (HB.out.below hb)
            have GP := Lib.hid (GP.out.below hb)
            have OP := Lib.hid (OP.out.below hb)
            have HZ := Lib.hid (HZ.out.below hb)
            clear hb
            (try dsimp only)
            refine hK.out _ _ ⟨RuAt.range9 (HRP.out.1.below HB.out.be), PoAt.range3 (HRP.out.2.1.below HB.out.be)⟩ (fun hHeld => ?_)
            clear hK K
            (try simp only [Act.put, List.setIfInBounds_toArray, List.set_cons_zero, List.set_cons_succ])
            refine wpAnyH_take (i := 5) (oi := { dst := some 79, op := Op.move (Operand.tmp 84), type := 39, pos := "exact.go:4097", after := #[{ on := 4, ground := Ground.data }], guard := none }) (v := .tuple #[.agg cs.toArray, .int .i64 cd]) rfl (by kernel_rfl) (by kernel_rfl) (by kernel_rfl) (fun _ _ _ h => h) (.inl ⟨by rfl, fun u hu => by (try dsimp only at hu); go_simp; try with_reducible rfl⟩) hHeld ?_
            simp only [Act.put, List.setIfInBounds_toArray, List.set_cons_zero, List.set_cons_succ]
            refine wpAnyH_take (i := 6) (oi := { dst := some 85, op := Op.extract (Operand.tmp 79) 0, type := 34, pos := "exact.go:4097", after := #[{ on := 5, ground := Ground.data }], guard := none }) (v := .agg cs.toArray) rfl (by kernel_rfl) (by kernel_rfl) (by kernel_rfl) (fun _ _ _ h => h) (.inl ⟨by rfl, fun u hu => by (try dsimp only at hu); go_simp; try with_reducible rfl⟩) hHeld ?_
            simp only [Act.put, List.setIfInBounds_toArray, List.set_cons_zero, List.set_cons_succ]
            refine wpAnyH_take (i := 7) (oi := { dst := some 86, op := Op.extract (Operand.tmp 79) 1, type := 2, pos := "exact.go:4097", after := #[{ on := 5, ground := Ground.data }, { on := 9, ground := Ground.gcOnly Departure.lateStores }], guard := none }) (v := .int .i64 cd) rfl (by kernel_rfl) (by kernel_rfl) (by kernel_rfl) (fun _ _ _ h => h) (.inl ⟨by rfl, fun u hu => by (try dsimp only at hu); go_simp; try with_reducible rfl⟩) hHeld ?_
            simp only [Act.put, List.setIfInBounds_toArray, List.set_cons_zero, List.set_cons_succ]
            refine wpAnyH_ready (rs := [9]) (by kernel_rfl) (by simp) ?_
            refine AllReadyH.cons rfl (fun K hK => ?_) AllReadyH.nil
            rw [if_pos (by rfl)]
            refine wp_store_mid 34 _ _ rfl (v3.heap.size) 0 cs.toArray rfl rfl (by rw [hcs]; exact HZ.out.th) (by rw [hcs]; kernel_rfl) (all_oneCell_toArray hco) ?_
            (try simp only [Act.put, List.setIfInBounds_toArray])
            have HB := Lib.hid (Old.mk (below_scg (v3.heap.size) (by omega) cs 0 HB.out.be))
            have GP := Lib.hid (GP.out.fr (Fr.of_but (but_scg (v3.heap.size) cs 0 (But.refl _ _)) (.inr (by omega))))
            have HCs := Lib.hid (World.rangeAt_setCells_same v4 (v3.heap.size) 0 cs (by rw [hcl]; exact HZ.out.th))
            have GS := Lib.hid (Fo.out.fr _ _ _ _ _ GS.out (Fr.of_but (but_scg (v3.heap.size) cs 0 (But.refl _ _)) (by omega)))
            have hsz : v3.heap.size < (World.setCells v4 (v3.heap.size) 0 cs).heap.size := by rw [size_scg]; exact HZ.out.lt
            (try dsimp only)
            refine hK.out _ _ ⟨RuAt.range9 (HRP.out.1.below HB.out.be), PoAt.range3 (HRP.out.2.1.below HB.out.be)⟩ (fun hHeld => ?_)
            clear hK K
            (try simp only [Act.put, List.setIfInBounds_toArray, List.set_cons_zero, List.set_cons_succ])
            refine wpAnyH_ready (rs := [10]) (by kernel_rfl) (by simp) ?_
            refine AllReadyH.cons rfl (fun K hK => ?_) AllReadyH.nil
            rw [if_pos (by rfl)]
            go_simp
            refine hK.out _ _ ⟨RuAt.range9 (HRP.out.1.below HB.out.be), PoAt.range3 (HRP.out.2.1.below HB.out.be)⟩ (fun hHeld => ?_)
            clear hK K
            (try simp only [Act.put, List.setIfInBounds_toArray, List.set_cons_zero, List.set_cons_succ])
            refine wpAnyH_done (by kernel_rfl) ?_ _
            go_wp2_with fail
            go_meet
            exact ⟨v3.heap.size, _, _, cs, rfl, rfl, HB.out, GP.out, ⟨Fo.out, hsz, HCs.out, GS.out, (by omega), (by rw [size_scg]; omega), Nat.le_refl _, Nat.zero_le _, Nat.zero_le _⟩⟩
        · rw [if_pos (by rfl)]
          go_simp
          have hza := HB.out.be.size
          have hya := GP.out.le
          have hb := al1 v1 (.cells #[.int .i64 0, .int .i64 0, .bool false, .bool false, .bool false, .bool false, .bool false, .int .i64 0, .int .i64 0, .slice none 0 0, .slice none 0 0, .int .i64 0, .slice none 0 0, .slice none 0 0, .slice none 0 0, .int .i64 0, .int .i64 0] 34)
          have HZ := Lib.hid (th_new v1 34)
          have HB := Lib.hid (HB.out.below hb)
          have GP := Lib.hid (GP.out.below hb)
          change K _ (v1.alloc (.cells #[.int .i64 0, .int .i64 0, .bool false, .bool false, .bool false, .bool false, .bool false, .int .i64 0, .int .i64 0, .slice none 0 0, .slice none 0 0, .int .i64 0, .slice none 0 0, .slice none 0 0, .slice none 0 0, .int .i64 0, .int .i64 0] 34))
          generalize v1.alloc (.cells #[.int .i64 0, .int .i64 0, .bool false, .bool false, .bool false, .bool false, .bool false, .int .i64 0, .int .i64 0, .slice none 0 0, .slice none 0 0, .int .i64 0, .slice none 0 0, .slice none 0 0, .slice none 0 0, .int .i64 0, .int .i64 0] 34) = ua at *
          clear hb
          (try dsimp only)
          refine hK.out _ _ ⟨RuAt.range9 (HRP.out.1.below HB.out.be), PoAt.range3 (HRP.out.2.1.below HB.out.be)⟩ (fun hHeld => ?_)
          clear hK K
          (try simp only [Act.put, List.setIfInBounds_toArray, List.set_cons_zero, List.set_cons_succ])
          refine wpAnyH_ready (rs := [3]) (by kernel_rfl) (by simp) ?_
          refine AllReadyH.cons rfl (fun K hK => ?_) AllReadyH.nil
          rw [if_pos (by rfl)]
          go_simp
          go_at_call 16
          refine (toPos_any q1 q2 qn1 qc1 qn2 qc2 qp xs ys _ (H.out.below (HRP.out.2.2.trans (HB.out.be.mono HRP.out.2.2.size)))).mono ?_
          rintro e v3 ⟨g1, g2, rfl, o, lo1, lo2, hb⟩
          have OP := Lib.hid o.r
          clear o lo1 lo2
          have HB := Lib.hid (HB.out.below hb)
          have GP := Lib.hid (GP.out.below hb)
          have HZ := Lib.hid (HZ.out.below hb)
          clear hb
          (try dsimp only)
          refine hK.out _ _ ⟨RuAt.range9 (HRP.out.1.below HB.out.be), PoAt.range3 (HRP.out.2.1.below HB.out.be)⟩ (fun hHeld => ?_)
          clear hK K
          (try simp only [Act.put, List.setIfInBounds_toArray, List.set_cons_zero, List.set_cons_succ])
          refine wpAnyH_ready (rs := [4]) (by kernel_rfl) (by simp) ?_
          refine AllReadyH.cons rfl (fun K hK => ?_) AllReadyH.nil
          have hal := HZ.out.lt
          have hzm := HB.out.be.size
          have hym := GP.out.le
          rw [if_pos (by rfl)]
          go_simp
          go_at_call 17
          refine (Hi.out _ _ _ _ _ OP.out).mono ?_
          rintro e v4 ⟨cs, rfl, hg, hb⟩
          have GS := Lib.hid hg
          obtain ⟨hcl, hco⟩ := (Fo.out.len _ _ _ _ hg)
          have hcs : cs.toArray.size = 17 := hcl
          have hhi := hb.size
          clear hg
          have HB := Lib.hid (HB.out.below hb)
          have GP := Lib.hid (GP.out.below hb)
          have HZ := Lib.hid (HZ.out.below hb)
          have OP := Lib.hid (OP.out.below hb)
          clear hb
          (try dsimp only)
          refine hK.out _ _ ⟨RuAt.range9 (HRP.out.1.below HB.out.be), PoAt.range3 (HRP.out.2.1.below HB.out.be)⟩ (fun hHeld => ?_)
          clear hK K
          (try simp only [Act.put, List.setIfInBounds_toArray, List.set_cons_zero, List.set_cons_succ])
          refine wpAnyH_take (i := 5) (oi := { dst := some 79, op := Op.move (Operand.tmp 84), type := 39, pos := "exact.go:4097", after := #[{ on := 4, ground := Ground.data }], guard := none }) (v := .tuple #[.agg cs.toArray, .int .i64 cd]) rfl (by kernel_rfl) (by kernel_rfl) (by kernel_rfl) (fun _ _ _ h => h) (.inl ⟨by rfl, fun u hu => by (try dsimp only at hu); go_simp; try with_reducible rfl⟩) hHeld ?_
          simp only [Act.put, List.setIfInBounds_toArray, List.set_cons_zero, List.set_cons_succ]
          refine wpAnyH_take (i := 6) (oi := { dst := some 85, op := Op.extract (Operand.tmp 79) 0, type := 34, pos := "exact.go:4097", after := #[{ on := 5, ground := Ground.data }], guard := none }) (v := .agg cs.toArray) rfl (by kernel_rfl) (by kernel_rfl) (by kernel_rfl) (fun _ _ _ h => h) (.inl ⟨by rfl, fun u hu => by (try dsimp only at hu); go_simp; try with_reducible rfl⟩) hHeld ?_
          simp only [Act.put, List.setIfInBounds_toArray, List.set_cons_zero, List.set_cons_succ]
          refine wpAnyH_take (i := 7) (oi := { dst := some 86, op := Op.extract (Operand.tmp 79) 1, type := 2, pos := "exact.go:4097", after := #[{ on := 5, ground := Ground.data }, { on := 9, ground := Ground.gcOnly Departure.lateStores }], guard := none }) (v := .int .i64 cd) rfl (by kernel_rfl) (by kernel_rfl) (by kernel_rfl) (fun _ _ _ h => h) (.inl ⟨by rfl, fun u hu => by (try dsimp only at hu); go_simp; try with_reducible rfl⟩) hHeld ?_
          simp only [Act.put, List.setIfInBounds_toArray, List.set_cons_zero, List.set_cons_succ]
          refine wpAnyH_ready (rs := [9]) (by kernel_rfl) (by simp) ?_
          refine AllReadyH.cons rfl (fun K hK => ?_) AllReadyH.nil
          rw [if_pos (by rfl)]
          refine wp_store_mid 34 _ _ rfl (v1.heap.size) 0 cs.toArray rfl rfl (by rw [hcs]; exact HZ.out.th) (by rw [hcs]; kernel_rfl) (all_oneCell_toArray hco) ?_
          (try simp only [Act.put, List.setIfInBounds_toArray])
          have HB := Lib.hid (Old.mk (below_scg (v1.heap.size) (by omega) cs 0 HB.out.be))
          have GP := Lib.hid (GP.out.fr (Fr.of_but (but_scg (v1.heap.size) cs 0 (But.refl _ _)) (.inr (by omega))))
          have HCs := Lib.hid (World.rangeAt_setCells_same v4 (v1.heap.size) 0 cs (by rw [hcl]; exact HZ.out.th))
          have GS := Lib.hid (Fo.out.fr _ _ _ _ _ GS.out (Fr.of_but (but_scg (v1.heap.size) cs 0 (But.refl _ _)) (by omega)))
          have hsz : v1.heap.size < (World.setCells v4 (v1.heap.size) 0 cs).heap.size := by rw [size_scg]; exact HZ.out.lt
          (try dsimp only)
          refine hK.out _ _ ⟨RuAt.range9 (HRP.out.1.below HB.out.be), PoAt.range3 (HRP.out.2.1.below HB.out.be)⟩ (fun hHeld => ?_)
          clear hK K
          (try simp only [Act.put, List.setIfInBounds_toArray, List.set_cons_zero, List.set_cons_succ])
          refine wpAnyH_ready (rs := [10]) (by kernel_rfl) (by simp) ?_
          refine AllReadyH.cons rfl (fun K hK => ?_) AllReadyH.nil
          rw [if_pos (by rfl)]
          go_simp
          refine hK.out _ _ ⟨RuAt.range9 (HRP.out.1.below HB.out.be), PoAt.range3 (HRP.out.2.1.below HB.out.be)⟩ (fun hHeld => ?_)
          clear hK K
          (try simp only [Act.put, List.setIfInBounds_toArray, List.set_cons_zero, List.set_cons_succ])
          refine wpAnyH_done (by kernel_rfl) ?_ _
          go_wp2_with fail
          go_meet
          exact ⟨v1.heap.size, _, _, cs, rfl, rfl, HB.out, GP.out, ⟨Fo.out, hsz, HCs.out, GS.out, (by omega), (by rw [size_scg]; omega), Nat.le_refl _, Nat.zero_le _, Nat.zero_le _⟩⟩
      · rw [if_pos (by rfl)]
        go_simp
        have hza := HB.out.be.size
        have hya := GP.out.le
        have hb := al1 ud (.cells #[.int .i64 0, .int .i64 0, .bool false, .bool false, .bool false, .bool false, .bool false, .int .i64 0, .int .i64 0, .slice none 0 0, .slice none 0 0, .int .i64 0, .slice none 0 0, .slice none 0 0, .slice none 0 0, .int .i64 0, .int .i64 0] 34)
        have HZ := Lib.hid (th_new ud 34)
        have HB := Lib.hid (HB.out.below hb)
        have GP := Lib.hid (GP.out.below hb)
        change K _ (ud.alloc (.cells #[.int .i64 0, .int .i64 0, .bool false, .bool false, .bool false, .bool false, .bool false, .int .i64 0, .int .i64 0, .slice none 0 0, .slice none 0 0, .int .i64 0, .slice none 0 0, .slice none 0 0, .slice none 0 0, .int .i64 0, .int .i64 0] 34))
        generalize ud.alloc (.cells #[.int .i64 0, .int .i64 0, .bool false, .bool false, .bool false, .bool false, .bool false, .int .i64 0, .int .i64 0, .slice none 0 0, .slice none 0 0, .int .i64 0, .slice none 0 0, .slice none 0 0, .slice none 0 0, .int .i64 0, .int .i64 0] 34) = ua at *
        clear hb
        (try dsimp only)
        refine hK.out _ _ ⟨RuAt.range9 (HRP.out.1.below HB.out.be), PoAt.range3 (HRP.out.2.1.below HB.out.be)⟩ (fun hHeld => ?_)
        clear hK K
        (try simp only [Act.put, List.setIfInBounds_toArray, List.set_cons_zero, List.set_cons_succ])
        refine wpAnyH_ready (rs := [1]) (by kernel_rfl) (by simp) ?_
        refine AllReadyH.cons rfl (fun K hK => ?_) AllReadyH.nil
        rw [if_pos (by rfl)]
        go_simp
        go_at_call 15
        refine (toRules_any p s c l st sk re fe ag _).mono ?_
        rintro e v1 ⟨rfl, hb⟩
        have HB := Lib.hid (HB.out.below hb)
        have GP := Lib.hid (GP.out.below hb)
        have HZ := Lib.hid (HZ.out.below hb)
        clear hb
        (try dsimp only)
        refine hK.out _ _ ⟨RuAt.range9 (HRP.out.1.below HB.out.be), PoAt.range3 (HRP.out.2.1.below HB.out.be)⟩ (fun hHeld => ?_)
        clear hK K
        (try simp only [Act.put, List.setIfInBounds_toArray, List.set_cons_zero, List.set_cons_succ])
        refine wpAnyH_ready (rs := [3]) (by kernel_rfl) (by simp) ?_
        refine AllReadyH.cons rfl (fun K hK => ?_) AllReadyH.nil
        rw [if_pos (by rfl)]
        go_simp
        go_at_call 16
        refine (toPos_any q1 q2 qn1 qc1 qn2 qc2 qp xs ys _ (H.out.below (HRP.out.2.2.trans (HB.out.be.mono HRP.out.2.2.size)))).mono ?_
        rintro e v3 ⟨g1, g2, rfl, o, lo1, lo2, hb⟩
        have OP := Lib.hid o.r
        clear o lo1 lo2
        have HB := Lib.hid (HB.out.below hb)
        have GP := Lib.hid (GP.out.below hb)
        have HZ := Lib.hid (HZ.out.below hb)
        clear hb
        (try dsimp only)
        refine hK.out _ _ ⟨RuAt.range9 (HRP.out.1.below HB.out.be), PoAt.range3 (HRP.out.2.1.below HB.out.be)⟩ (fun hHeld => ?_)
        clear hK K
        (try simp only [Act.put, List.setIfInBounds_toArray, List.set_cons_zero, List.set_cons_succ])
        refine wpAnyH_ready (rs := [4]) (by kernel_rfl) (by simp) ?_
        refine AllReadyH.cons rfl (fun K hK => ?_) AllReadyH.nil
        have hal := HZ.out.lt
        have hzm := HB.out.be.size
        have hym := GP.out.le
        rw [if_pos (by rfl)]
        go_simp
        go_at_call 17
        refine (Hi.out _ _ _ _ _ OP.out).mono ?_
        rintro e v4 ⟨cs, rfl, hg, hb⟩
        have GS := Lib.hid hg
        obtain ⟨hcl, hco⟩ := (Fo.out.len _ _ _ _ hg)
        have hcs : cs.toArray.size = 17 := hcl
        have hhi := hb.size
        clear hg
        have HB := Lib.hid (HB.out.below hb)
        have GP := Lib.hid (GP.out.below hb)
        have HZ := Lib.hid (HZ.out.below hb)
        have OP := Lib.hid (OP.out.below hb)
        clear hb
        (try dsimp only)
        refine hK.out _ _ ⟨RuAt.range9 (HRP.out.1.below HB.out.be), PoAt.range3 (HRP.out.2.1.below HB.out.be)⟩ (fun hHeld => ?_)
        clear hK K
        (try simp only [Act.put, List.setIfInBounds_toArray, List.set_cons_zero, List.set_cons_succ])
        refine wpAnyH_take (i := 5) (oi := { dst := some 79, op := Op.move (Operand.tmp 84), type := 39, pos := "exact.go:4097", after := #[{ on := 4, ground := Ground.data }], guard := none }) (v := .tuple #[.agg cs.toArray, .int .i64 cd]) rfl (by kernel_rfl) (by kernel_rfl) (by kernel_rfl) (fun _ _ _ h => h) (.inl ⟨by rfl, fun u hu => by (try dsimp only at hu); go_simp; try with_reducible rfl⟩) hHeld ?_
        simp only [Act.put, List.setIfInBounds_toArray, List.set_cons_zero, List.set_cons_succ]
        refine wpAnyH_take (i := 6) (oi := { dst := some 85, op := Op.extract (Operand.tmp 79) 0, type := 34, pos := "exact.go:4097", after := #[{ on := 5, ground := Ground.data }], guard := none }) (v := .agg cs.toArray) rfl (by kernel_rfl) (by kernel_rfl) (by kernel_rfl) (fun _ _ _ h => h) (.inl ⟨by rfl, fun u hu => by (try dsimp only at hu); go_simp; try with_reducible rfl⟩) hHeld ?_
        simp only [Act.put, List.setIfInBounds_toArray, List.set_cons_zero, List.set_cons_succ]
        refine wpAnyH_take (i := 7) (oi := { dst := some 86, op := Op.extract (Operand.tmp 79) 1, type := 2, pos := "exact.go:4097", after := #[{ on := 5, ground := Ground.data }, { on := 9, ground := Ground.gcOnly Departure.lateStores }], guard := none }) (v := .int .i64 cd) rfl (by kernel_rfl) (by kernel_rfl) (by kernel_rfl) (fun _ _ _ h => h) (.inl ⟨by rfl, fun u hu => by (try dsimp only at hu); go_simp; try with_reducible rfl⟩) hHeld ?_
        simp only [Act.put, List.setIfInBounds_toArray, List.set_cons_zero, List.set_cons_succ]
        refine wpAnyH_ready (rs := [9]) (by kernel_rfl) (by simp) ?_
        refine AllReadyH.cons rfl (fun K hK => ?_) AllReadyH.nil
        rw [if_pos (by rfl)]
        refine wp_store_mid 34 _ _ rfl (ud.heap.size) 0 cs.toArray rfl rfl (by rw [hcs]; exact HZ.out.th) (by rw [hcs]; kernel_rfl) (all_oneCell_toArray hco) ?_
        (try simp only [Act.put, List.setIfInBounds_toArray])
        have HB := Lib.hid (Old.mk (below_scg (ud.heap.size) (by omega) cs 0 HB.out.be))
        have GP := Lib.hid (GP.out.fr (Fr.of_but (but_scg (ud.heap.size) cs 0 (But.refl _ _)) (.inr (by omega))))
        have HCs := Lib.hid (World.rangeAt_setCells_same v4 (ud.heap.size) 0 cs (by rw [hcl]; exact HZ.out.th))
        have GS := Lib.hid (Fo.out.fr _ _ _ _ _ GS.out (Fr.of_but (but_scg (ud.heap.size) cs 0 (But.refl _ _)) (by omega)))
        have hsz : ud.heap.size < (World.setCells v4 (ud.heap.size) 0 cs).heap.size := by rw [size_scg]; exact HZ.out.lt
        (try dsimp only)
        refine hK.out _ _ ⟨RuAt.range9 (HRP.out.1.below HB.out.be), PoAt.range3 (HRP.out.2.1.below HB.out.be)⟩ (fun hHeld => ?_)
        clear hK K
        (try simp only [Act.put, List.setIfInBounds_toArray, List.set_cons_zero, List.set_cons_succ])
        refine wpAnyH_ready (rs := [10]) (by kernel_rfl) (by simp) ?_
        refine AllReadyH.cons rfl (fun K hK => ?_) AllReadyH.nil
        rw [if_pos (by rfl)]
        go_simp
        refine hK.out _ _ ⟨RuAt.range9 (HRP.out.1.below HB.out.be), PoAt.range3 (HRP.out.2.1.below HB.out.be)⟩ (fun hHeld => ?_)
        clear hK K
        (try simp only [Act.put, List.setIfInBounds_toArray, List.set_cons_zero, List.set_cons_succ])
        refine wpAnyH_done (by kernel_rfl) ?_ _
        go_wp2_with fail
        go_meet
        exact ⟨ud.heap.size, _, _, cs, rfl, rfl, HB.out, GP.out, ⟨Fo.out, hsz, HCs.out, GS.out, (by omega), (by rw [size_scg]; omega), Nat.le_refl _, Nat.zero_le _, Nat.zero_le _⟩⟩
    obtain ⟨F, loe, hie, cse, rfl, rfl, hb, hg, hf⟩ := hcut
    have HB := Lib.hid hb
    have GP := Lib.hid hg
    have GE := Lib.hid hf
    have hle := (hf.ok.len _ _ _ _ hf.g).1
    clear hb hg hf
    go_upto_region 25 with fail
    go_step
    refine wpList_load_mid rfl 34 (.tmp 14) rfl F 0 rfl cse _ GE.out.rg Try.underlying34 rfl (by rw [hle]; kernel_rfl) ?_
    simp only [Act.put, List.setIfInBounds_toArray, List.set_cons_zero, List.set_cons_succ]
    refine wpList_load_mid rfl 34 (.tmp 6) rfl A 0 rfl cs6 _ (G6.out.below HB.out.be).rg Try.underlying34 rfl (by rw [hl6]; kernel_rfl) ?_
    simp only [Act.put, List.setIfInBounds_toArray, List.set_cons_zero, List.set_cons_succ]
    go_wp2_with fail
    refine (He.out _ _ _ _ _ _ _ GE.out.g (G6.out.below HB.out.be).g).mono ?_
    rintro e w15 ⟨rfl, hb8⟩
    (first | have HB := Lib.hid (HB.out.below hb8) | have HB := Lib.hid (HB.out.drew.below hb8) | have HB := Lib.hid ((HB.out.below (al1 _ _)).below hb8) | have HB := Lib.hid ((HB.out.below (al1 _ _)).drew.below hb8)); (first | have GP := Lib.hid (GP.out.below hb8) | have GP := Lib.hid (GP.out.drew.below hb8) | have GP := Lib.hid ((GP.out.below (al1 _ _)).below hb8) | have GP := Lib.hid ((GP.out.below (al1 _ _)).drew.below hb8))
    clear hb8 GE
    go_upto_region 28 with fail
    go_step
    refine wpList_load_mid rfl 34 (.tmp 9) rfl C 0 rfl cs9 _ GP.out.rg Try.underlying34 rfl (by rw [hl9]; kernel_rfl) ?_
    simp only [Act.put, List.setIfInBounds_toArray, List.set_cons_zero, List.set_cons_succ]
    go_wp2_with fail
    refine (Hh.out _ _ _ _ GP.out.g).mono ?_
    rintro e w16 ⟨rfl, hb8⟩
    (first | have HB := Lib.hid (HB.out.below hb8) | have HB := Lib.hid (HB.out.drew.below hb8) | have HB := Lib.hid ((HB.out.below (al1 _ _)).below hb8) | have HB := Lib.hid ((HB.out.below (al1 _ _)).drew.below hb8))
    clear hb8
    go_wp2_with fail
    go_ret
    exact ⟨rfl, HRP.out.2.2.trans (HB.out.be.mono HRP.out.2.2.size)⟩
  · have e1 := szV_no hsz
    have E1 := Lib.hid e1
    clear e1
    go_enter Try.func4, Try.ntmps4
    go_wp2_with fail
    refine (szP_any q1 q2 qn1 qc1 qn2 qc2 qp 1048576 (by omega) (by omega) hb1 hb2 _).mono ?_
    rintro e w1 ⟨rfl, b1⟩
    rw [E1.out]
    have HS := Lib.hid (HS.out.below b1)
    clear b1
    go_wp2_with fail
    go_ret
    exact ⟨rfl, HS.out.2.2⟩
end Go.Proofs.Ytmngmbpdiaocjaa
