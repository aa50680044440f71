/- A lap of the reference. No conditions. -/
import Derived.Test.YtmngmbpdiaocjaaSownAt
import Derived.Test.YtmngmbpdiaocjaaNext5
import Derived.Deep.LoopGhost
import Derived.Deep.RegionLaw
import Derived.Deep.Cut
import Derived.Deep.CutRange
namespace Go.Proofs.Ytmngmbpdiaocjaa
open Go.Joins Go.ChangeShapes Go.WideShapes Go.ChangeAt Go.RowKit Go.Deep
set_option linter.unusedVariables false

/-- The place y from which the i-th place is the next; it may be the store. -/
def NearK (p pl : Int) (st sk : Bool) (f : Int) (i : Nat) (y : Int) : Prop := -1 ≤ y ∧ y < 2 * p ∧ nxF p pl st sk f y = plc p pl st sk f i
def mzL (N k : Nat) (y f : Int) : Nat := 2 * (N - k) + (if y = f then 0 else 1)
theorem mzL_lt {N k k' : Nat} {y z f : Int} (h : k < k') (hk : k < N) : mzL N k' z f < mzL N k y f := by unfold mzL; split <;> split <;> omega
theorem mzL_skip {N k : Nat} {y f : Int} (h : ¬ y = f) : mzL N k f f < mzL N k y f := by unfold mzL; rw [if_pos rfl, if_neg h]; omega
theorem skL_cases {sk : Bool} {z f : Int} (h : ¬ (sk && decide (z = f)) = true) : sk = false ∨ (sk = true ∧ (z == f) = false) := by
  cases sk
  · exact .inl rfl
  · exact .inr ⟨rfl, by simpa using h⟩
/-- The state of a lap when i of its seeds are sown. -/
structure LapI (w : World) (R : Rl) (rp : World → Prop) (bs g1 c1 g2 c2 n1 n0 : Nat) (la lp f : Int) (xs ys path : List Int) (i : Nat) (v : Value) (W : World) : Prop where
  below : Below w.heap.size w W
  ru : rp W
  so : SoS W w.heap.size bs g1 c1 g2 c2 n1 la lp (cx R xs f i) (cy R ys f i)
  row : W.ownsRow n0 2 1 v (path.length + i) (nvs (path ++ lapP R f i))
theorem nvs_snoc (xs : List Int) (x : Int) : nvs (xs ++ [x]) = nvs xs ++ nvs [x] := nvs_app _ _
theorem row_oneL (u : World) (x : Int) (T : TypeId) : RowN (u.alloc (.cells #[.int .i64 x] T)) (some ⟨u.heap.size, 0, none⟩) [x] :=
  ⟨by simp, .inr ⟨u.heap.size, 0, rfl, by simp, fun i z hi => by
    match i, hi with
    | 0, hi =>
      cases hi
      rw [World.cell?_alloc_new]
      rfl⟩⟩
/-- What a lap leaves. -/
def LapD (w W0 : World) (R : Rl) (rp : World → Prop) (bs g1 c1 g2 c2 n1 n0 : Nat) (lp f : Int) (xs ys path : List Int) (e : Ending) (W : World) : Prop :=
  ∃ v, e = .returned v ∧ Below w.heap.size w W ∧ rp W ∧ SoS W w.heap.size bs g1 c1 g2 c2 n1 (lst R xs f) (lp + 1) (cx R xs f (cnt xs f)) (cy R ys f (cnt xs f)) ∧
    W.ownsRow n0 2 1 v (path.length + cnt xs f) (nvs (path ++ lapP R f (cnt xs f))) ∧ W0.heap.size ≤ W.heap.size

set_option maxHeartbeats 8000000 in
set_option maxRecDepth 100000 in
theorem specLap0 (w W : World) (R : Rl) (p s c l : Int) (st sk re fe ag : Bool) (hRe : R = ⟨p, 0, st, sk, re⟩) (t : Int) (rb bs g1 c1 g2 c2 n1 n0 : Nat) (la lp f : Int) (xs ys path : List Int) (v : Value)
    (hp : 2 ≤ p) (hp8 : p ≤ 8) (hl : Lap R xs ys f t) (hb : Below w.heap.size w W) (hr : RuAt W rb p s c l st sk re fe ag)
    (hs : SoS W w.heap.size bs g1 c1 g2 c2 n1 la lp xs ys) (hrow : W.ownsRow n0 2 1 v path.length (nvs path)) (hn0 : n0 ≤ W.heap.size) (hwn : w.heap.size ≤ n0)
    (e0 : rb < n0) (e1 : bs < n0) (e2 : g1 < n0) (e3 : g2 < n0) (d1 : rb ≠ bs) (d2 : rb ≠ g1) (d3 : rb ≠ g2) (hlp : 0 ≤ lp) (hlp2 : lp ≤ 1000) (hpath : path.length ≤ 100000) (hbs : w.heap.size ≤ bs) :
    Calls Try.prog 97 #[.pointer (some ⟨rb, 0, none⟩), .pointer (some ⟨bs, 0, none⟩), .int .i64 0, .int .i64 f, v] W (LapD w W R (fun u => RuAt u rb p s c l st sk re fe ag) bs g1 c1 g2 c2 n1 n0 lp f xs ys path) := by
  obtain ⟨i0, hi, hz0, hz1, hz2⟩ := info_parts infoN
  have hR : Rl.Fit R := by
    subst hRe
    exact ⟨hp, hp8, by simp⟩
  have hRp : R.p = p := by rw [hRe]
  have HAt : Hid (∀ f i, R.at f i = plc p 0 st sk f i) := Lib.hid fun f i => by rw [hRe]; rfl
  have HPl : Hid (∀ zs y, putY R.pl zs y = putY 0 zs y) := Lib.hid fun zs y => by rw [hRe]
  obtain ⟨F, rfl⟩ : ∃ F : Nat, f = F := ⟨f.toNat, by have := hl.f0; omega⟩
  have hF : F < n1 := by have h1 := hl.brd.lx; have h2 := hl.f1; have h3 := hs.l1; rw [hRp] at h1 h2; omega
  have hx := hs.x hF
  have hcn := hl.num
  have hne := hl.ne
  have hle := hl.num_le
  rw [Int.toNat_natCast] at hcn hne
  obtain ⟨_, k0, k1, k2, k3⟩ := hs.so
  have hfr := hs.fr
  have Hl := Lib.hid hl
  have Hb := Lib.hid hb
  have Hr := Lib.hid hr
  have Hs := Lib.hid hs
  have Hrow := Lib.hid hrow
  have Hn := Lib.hid hcn
  have HR := Lib.hid hR
  obtain ⟨x1, x2, x3⟩ := hx
  have q0 : (0 : Int) ≤ (F : Int) := by omega
  have q1 : (F : Int) < (n1 : Int) := by omega
  have hS0 : SoS (W.setCell ⟨g1, F, none⟩ (.int .i64 0)) w.heap.size bs g1 c1 g2 c2 n1 la lp (cx R xs F 0) (cy R ys F 0) := by
    have := hs.setX hF 0
    show SoS _ _ _ _ _ _ _ _ _ _ (xs.set ((F : Nat) : Int).toNat 0) ys
    rwa [Int.toNat_natCast]
  have HS0 := Lib.hid hS0
  clear hl hb hr hs hrow hcn hR hfr hS0 hne
  rw [← Hn.out] at x1
  generalize hcc : cnt xs (F : Int) = C at *
  have Hcc := Lib.hid hcc
  clear hcc
  go_enter Try.func97, Try.ntmps97
  go_wp2_with fail
  have HI0 : Hid (LapI w R (fun u => RuAt u rb p s c l st sk re fe ag) bs g1 c1 g2 c2 n1 n0 la lp F xs ys path 0 v (W.setCell ⟨g1, F, none⟩ (.int .i64 0))) :=
    Lib.hid ⟨Hb.out.setCell (p := ⟨g1, F, none⟩) (Hs.out.o1.new) _, Hr.out.but ((But.refl g1 W).setCell rfl _) d2, HS0.out, by
      have := own_but Hrow.out ((But.refl g1 W).setCell (p := ⟨g1, F, none⟩) rfl (.int .i64 0)) e2
      simpa [lapP] using this⟩
  have HA0 : Hid (NearK p 0 st sk F 0 F) := Lib.hid ⟨by omega, by have := Hl.out.f1; rw [hRp] at this; exact this, rfl⟩
  have hC1 : 1 ≤ C := by have := Hl.out.num_pos; rw [Hcc.out] at this; exact this
  have hl0 : ¬ (0 : Nat) = C := by omega
  have Hl0 := Lib.hid hl0
  have hn02 : n0 ≤ (W.setCell ⟨g1, F, none⟩ (.int .i64 0)).heap.size := by simpa using hn0
  have Hl2 := Lib.hid (show W.heap.size ≤ (W.setCell ⟨g1, F, none⟩ (.int .i64 0)).heap.size by simp)
  have HRp := Lib.hid hRp
  have HRe := Lib.hid hRe
  clear hRp hRe HS0 Hs Hrow Hb Hr hl0 x1 x2 k0 k1 k2 k3
  generalize W.setCell ⟨g1, F, none⟩ (.int .i64 0) = W1 at *
  go_loopg [4, 11, 12] (mzL C 0 F F) (fun q pv sv plv wr => ∃ (i : Nat) (y : Int), q = mzL C i y F ∧ i ≤ C ∧ sv = .int .i64 ((C : Int) - i) ∧ plv = .int .i64 y ∧ NearK p 0 st sk F i y ∧ (i = C → y = lst R xs F) ∧ LapI w R (fun u => RuAt u rb p s c l st sk re fe ag) bs g1 c1 g2 c2 n1 n0 la lp F xs ys path i pv wr ∧ W.heap.size ≤ wr.heap.size)
  case atStart => exact ⟨0, F, rfl, Nat.zero_le _, by simp, rfl, HA0.out, fun h => absurd h Hl0.out, HI0.out, Hl2.out⟩
  case round =>
    obtain ⟨i, y, rfl, hiC, rfl, rfl, hnear, hlast, hI, hbig⟩ := hrel
    have Hnear := Lib.hid hnear
    have Hlast := Lib.hid hlast
    have HI := Lib.hid hI
    have Hbig := Lib.hid hbig
    obtain ⟨_, r0, r1, r2, r3, r4, r5, r6, r7, r8⟩ := hI.ru
    obtain ⟨_, k0, k1, k2, k3⟩ := hI.so.so
    have hfr := hI.so.fr
    have hfr2 := hfr 2
    have hfr3 := hfr 3
    have hnw : n0 ≤ wr.heap.size := Nat.le_trans hn0 hbig
    clear hlast hI hbig hfr HI0 HA0 hn02 Hl2
    by_cases hlt : i < C
    · have q2 : (1 : Int) ≤ (C : Int) - i := by omega
      have q3 : (C : Int) - i ≤ 96 := by omega
      obtain ⟨z, hz⟩ : ∃ z, nx p 0 st y = z := ⟨_, rfl⟩
      have hzb := nx_bd (pl := 0) (st := st) hp hnear.1 hnear.2.1
      rw [hz] at hzb
      have HNx : Hid (∀ u, RuAt u rb p s c l st sk re fe ag → Calls Try.prog 112 #[.pointer (some ⟨rb, 0, none⟩), .int .i64 0, .int .i64 y] u fun e w' => e = .returned (.int .i64 z) ∧ u = w') :=
        Lib.hid fun u hu => by
          obtain ⟨_, a0, _, a2, _⟩ := hu
          have := specNext0 p y st rb u a0 a2 hp hp8 hnear.1 hnear.2.1
          rwa [hz] at this
      have Hz := Lib.hid hz
      clear hz hnear
      by_cases hsk : (sk && decide (z = (F : Int))) = true
      · have hyF : ¬ y = F := by
          intro e
          have h1 : sk = true ∧ z = (F : Int) := by simpa using hsk
          exact nx_ne (pl := 0) (st := st) hp (by omega) (by rw [e] at Hz; exact Hz.out.trans h1.2)
        have HyF := Lib.hid hyF
        have HN : Hid (NearK p 0 st sk F i F) := Lib.hid ⟨by omega, by have := Hl.out.f1; rw [HRp.out] at this; exact this, by
          rw [nxF_self hp (by omega), ← Hnear.out.2.2, nxF_yes (by rw [Hz.out]; exact hsk)]⟩
        have h1 : sk = true ∧ z = (F : Int) := by simpa using hsk
        obtain ⟨rfl, rfl⟩ := h1
        clear hsk hyF
        go_wp2_with (go_at_call 112; refine (HNx.out _ (by with_reducible exact HI.out.ru)).mono ?_; rintro e w' ⟨rfl, rfl⟩)
        go_roundg (mzL C i F F)
        case measure => exact mzL_skip HyF.out
        case rel => exact ⟨i, F, rfl, hiC, rfl, rfl, HN.out, fun h => absurd h (by omega), HI.out, Hbig.out⟩
      · have hpl : plc p 0 st sk F i = z := by
          rw [← Hnear.out.2.2, nxF_no (by rw [Hz.out]; exact (by cases hh : (sk && decide (z = (F : Int))) <;> simp_all)), Hz.out]
        have hd2 := skL_cases hsk
        have Hpl := Lib.hid hpl
        have HN : Hid (NearK p 0 st sk F (i + 1) z) := Lib.hid ⟨hzb.1, hzb.2, by show _ = nxF p 0 st sk F (plc p 0 st sk F i); rw [hpl]⟩
        have hbd := Hl.out.mid HR.out i
        have hbd3 := hbd.bd
        have hhi := Hl.out.hi
        rw [Hcc.out] at hbd3
        have HBd := Lib.hid hbd3
        clear hsk hpl hbd hbd3
        rcases hd2 with rfl | ⟨rfl, hd2⟩
        all_goals
          by_cases hs1 : z = -1
          · subst hs1
            obtain ⟨y1, y2, y3⟩ := HI.out.so.y (i := 0) (by decide)
            have hyb := (HBd.out 0).2
            have HS2 : Hid (SoS (wr.setCell ⟨g2, 0, none⟩ (.int .i64 ((cy R ys F i).getD 0 0 + 1))) w.heap.size bs g1 c1 g2 c2 n1 la lp (cx R xs F (i + 1)) (cy R ys F (i + 1))) := by
              have := HI.out.so.setY (i := 0) (by decide) ((cy R ys F i).getD 0 0 + 1)
              have e1 : cx R xs F (i + 1) = cx R xs F i := by
                show putX _ (R.at F i) = _
                rw [HAt.out, Hpl.out]
                rfl
              have e2 : cy R ys F (i + 1) = (cy R ys F i).set 0 ((cy R ys F i).getD 0 0 + 1) := by
                show putY R.pl _ (R.at F i) = _
                rw [HPl.out, HAt.out, Hpl.out]
                rfl
              rw [e1, e2]
              exact Lib.hid this
            generalize (cy R ys F i).getD 0 0 = yv at *
            obtain ⟨hy0, hy1⟩ := hyb
            have hy2 : yv ≤ 96 := by omega
            clear hy1
            have HB2 := Lib.hid (HI.out.below.setCell (p := ⟨g2, 0, none⟩) (HI.out.so.o2.new) (.int .i64 (yv + 1)))
            have HRu2 := Lib.hid (HI.out.ru.but ((But.refl g2 wr).setCell (p := ⟨g2, 0, none⟩) rfl (.int .i64 (yv + 1))) d3)
            have HRow2 := Lib.hid (own_but HI.out.row ((But.refl g2 wr).setCell (p := ⟨g2, 0, none⟩) rfl (.int .i64 (yv + 1))) e3)
            have Hsz2 : Hid (wr.heap.size = (wr.setCell ⟨g2, 0, none⟩ (.int .i64 (yv + 1))).heap.size) := Lib.hid (by simp)
            go_upto_region 10 with (go_at_call 112; refine (HNx.out _ (by with_reducible exact HI.out.ru)).mono ?_; rintro e w' ⟨rfl, rfl⟩)
            clear r0 r1 r2 r3 r4 r5 r6 r7 r8 k0 k1 k2 k3 y1 y2 y3
            generalize wr.setCell ⟨g2, 0, none⟩ (.int .i64 (yv + 1)) = W2 at *
            have hn2 : n0 ≤ W2.heap.size := by have := Hsz2.out; omega
            have hbig2 : W.heap.size ≤ W2.heap.size := by have := Hsz2.out; have := Hbig.out; omega
            have hp2 : path.length + i ≤ 200000 := by omega
            go_wp2_with (at_builtin; refine wpList_append_own _ rfl _ _ 24 rfl n0 2 i0 (.int .i64 0) 1 8 Try.underlying24 hi hz0 hz1 hz2 rfl (by decide) _ (path.length + i) (nvs (path ++ lapP R F i)) rfl (own_keep HRow2.out ((Below.refl _ _).alloc (Nat.le_refl _) _)) ⟨W2.heap.size, 0, none⟩ 1 1 (nvs [-1]) rfl (by simp [nvs]) (row_news (row_oneL W2 (-1) 2)) (nvs_cell _) (by unfold maxLen; omega) (by omega) (by simp; omega) ?_; intro v1 w3 hown3 hgrow3 hnil3; have Hown3 := Lib.hid hown3; have Hgrow3 := Lib.hid hgrow3; clear hown3 hgrow3 hnil3)
            have hrl := (own_keep HRow2.out ((Below.refl _ W2).alloc (Nat.le_refl _) (.cells #[.int .i64 (-1)] 2))).lt
            have HRl := Lib.hid hrl
            clear hrl
            go_roundg (mzL C (i + 1) (-1) F)
            case measure => exact mzL_lt (by omega) hlt
            case rel =>
              refine ⟨i + 1, -1, rfl, by omega, by go_num, rfl, HN.out, fun h => ?_, ⟨?_, ?_, ?_, ?_⟩, ?_⟩
              · unfold lst
                rw [Hcc.out, ← h, HAt.out]
                exact Hpl.out.symm
              · exact (HB2.out.alloc HB2.out.size _).grown Hgrow3.out (by have := HB2.out.size; simp; omega) (fun k hk => by have := (HRl.out k hk).1; omega)
              · exact (HRu2.out.below ((Below.refl _ _).alloc (Nat.le_refl _) _)).grown Hgrow3.out (fun k hk => by have := (HRl.out k hk).1; omega)
              · exact (HS2.out.below ((Below.refl _ _).alloc (Nat.le_refl _) _)).grown Hgrow3.out (fun k hk => by have := (HRl.out k hk).1; omega)
              · have := Hown3.out
                rw [← nvs_app, List.append_assoc] at this
                have e : lapP R F (i + 1) = lapP R F i ++ [-1] := by
                  show _ ++ [R.at F i] = _
                  rw [HAt.out, Hpl.out]
                rw [e]
                exact this
              · exact Nat.le_trans hbig2 (Nat.le_trans (by simp) Hgrow3.out.size)
          · obtain ⟨m, rfl⟩ : ∃ m : Nat, z = m := ⟨z.toNat, by omega⟩
            have hm : m < n1 := by
              have h1 := Hl.out.brd.lx
              have h2 := HI.out.so.l1
              have h3 := (Hl.out.mid HR.out i).lx
              have h4 := HRp.out
              rw [h4] at h1 h3
              omega
            have hdm : ((m : Int) == -1) = false := by simp
            obtain ⟨y1, y2, y3⟩ := HI.out.so.x hm
            have hyb := (HBd.out m).1
            have p0 : (m : Int) < (n1 : Int) := by omega
            have HS2 : Hid (SoS (wr.setCell ⟨g1, m, none⟩ (.int .i64 ((cx R xs F i).getD m 0 + 1))) w.heap.size bs g1 c1 g2 c2 n1 la lp (cx R xs F (i + 1)) (cy R ys F (i + 1))) := by
              have := HI.out.so.setX hm ((cx R xs F i).getD m 0 + 1)
              have e2 : cy R ys F (i + 1) = cy R ys F i := by
                show putY R.pl _ (R.at F i) = _
                rw [HPl.out, HAt.out, Hpl.out]
                exact if_neg (by omega)
              have e1 : cx R xs F (i + 1) = (cx R xs F i).set m ((cx R xs F i).getD m 0 + 1) := by
                show putX _ (R.at F i) = _
                rw [HAt.out, Hpl.out]
                unfold putX
                rw [if_neg (by omega)]
                rfl
              rw [e1, e2]
              exact Lib.hid this
            generalize (cx R xs F i).getD m 0 = yv at *
            obtain ⟨hy0, hy1⟩ := hyb
            have hy2 : yv ≤ 96 := by omega
            clear hy1 hs1
            have HB2 := Lib.hid (HI.out.below.setCell (p := ⟨g1, m, none⟩) (HI.out.so.o1.new) (.int .i64 (yv + 1)))
            have HRu2 := Lib.hid (HI.out.ru.but ((But.refl g1 wr).setCell (p := ⟨g1, m, none⟩) rfl (.int .i64 (yv + 1))) d2)
            have HRow2 := Lib.hid (own_but HI.out.row ((But.refl g1 wr).setCell (p := ⟨g1, m, none⟩) rfl (.int .i64 (yv + 1))) e2)
            have Hsz2 : Hid (wr.heap.size = (wr.setCell ⟨g1, m, none⟩ (.int .i64 (yv + 1))).heap.size) := Lib.hid (by simp)
            go_upto_region 10 with (go_at_call 112; refine (HNx.out _ (by with_reducible exact HI.out.ru)).mono ?_; rintro e w' ⟨rfl, rfl⟩)
            clear r0 r1 r2 r3 r4 r5 r6 r7 r8 k0 k1 k2 k3 y1 y2 y3
            generalize wr.setCell ⟨g1, m, none⟩ (.int .i64 (yv + 1)) = W2 at *
            have hn2 : n0 ≤ W2.heap.size := by have := Hsz2.out; omega
            have hbig2 : W.heap.size ≤ W2.heap.size := by have := Hsz2.out; have := Hbig.out; omega
            have hp2 : path.length + i ≤ 200000 := by omega
            go_wp2_with (at_builtin; refine wpList_append_own _ rfl _ _ 24 rfl n0 2 i0 (.int .i64 0) 1 8 Try.underlying24 hi hz0 hz1 hz2 rfl (by decide) _ (path.length + i) (nvs (path ++ lapP R F i)) rfl (own_keep HRow2.out ((Below.refl _ _).alloc (Nat.le_refl _) _)) ⟨W2.heap.size, 0, none⟩ 1 1 (nvs [(m : Int)]) rfl (by simp [nvs]) (row_news (row_oneL W2 ((m : Int)) 2)) (nvs_cell _) (by unfold maxLen; omega) (by omega) (by simp; omega) ?_; intro v1 w3 hown3 hgrow3 hnil3; have Hown3 := Lib.hid hown3; have Hgrow3 := Lib.hid hgrow3; clear hown3 hgrow3 hnil3)
            have hrl := (own_keep HRow2.out ((Below.refl _ W2).alloc (Nat.le_refl _) (.cells #[.int .i64 ((m : Int))] 2))).lt
            have HRl := Lib.hid hrl
            clear hrl
            go_roundg (mzL C (i + 1) ((m : Int)) F)
            case measure => exact mzL_lt (by omega) hlt
            case rel =>
              refine ⟨i + 1, (m : Int), rfl, by omega, by go_num, rfl, HN.out, fun h => ?_, ⟨?_, ?_, ?_, ?_⟩, ?_⟩
              · unfold lst
                rw [Hcc.out, ← h, HAt.out]
                exact Hpl.out.symm
              · exact (HB2.out.alloc HB2.out.size _).grown Hgrow3.out (by have := HB2.out.size; simp; omega) (fun k hk => by have := (HRl.out k hk).1; omega)
              · exact (HRu2.out.below ((Below.refl _ _).alloc (Nat.le_refl _) _)).grown Hgrow3.out (fun k hk => by have := (HRl.out k hk).1; omega)
              · exact (HS2.out.below ((Below.refl _ _).alloc (Nat.le_refl _) _)).grown Hgrow3.out (fun k hk => by have := (HRl.out k hk).1; omega)
              · have := Hown3.out
                rw [← nvs_app, List.append_assoc] at this
                have e : lapP R F (i + 1) = lapP R F i ++ [(m : Int)] := by
                  show _ ++ [R.at F i] = _
                  rw [HAt.out, Hpl.out]
                rw [e]
                exact this
              · exact Nat.le_trans hbig2 (Nat.le_trans (by simp) Hgrow3.out.size)
    · obtain rfl : i = C := by omega
      have hd0 : decide (0 < (i : Int) - i) = false := by simp
      have hy := Hlast.out rfl
      have Hy := Lib.hid hy
      have HS3 := Lib.hid ((HI.out.so.setLast y).setLaps (lp + 1))
      have HB3 := Lib.hid ((HI.out.below.setCell (p := ⟨bs, 2, none⟩) hbs (.int .i64 y)).setCell (p := ⟨bs, 3, none⟩) hbs (.int .i64 (lp + 1)))
      have HRu3 := Lib.hid ((HI.out.ru.but ((But.refl bs wr).setCell (p := ⟨bs, 2, none⟩) rfl (.int .i64 y)) d1).but ((But.refl bs _).setCell (p := ⟨bs, 3, none⟩) rfl (.int .i64 (lp + 1))) d1)
      have HRow3 := Lib.hid (own_but (own_but HI.out.row ((But.refl bs wr).setCell (p := ⟨bs, 2, none⟩) rfl (.int .i64 y)) e1) ((But.refl bs _).setCell (p := ⟨bs, 3, none⟩) rfl (.int .i64 (lp + 1))) e1)
      clear hy hnear
      go_wp2_with fail
      go_ret
      refine ⟨_, rfl, HB3.out, HRu3.out, ?_, ?_, by simpa using Hbig.out⟩
      · rw [Hcc.out, ← Hy.out]
        exact HS3.out
      · rw [Hcc.out]
        exact HRow3.out
set_option maxHeartbeats 8000000 in
set_option maxRecDepth 100000 in
theorem specLap1 (w W : World) (R : Rl) (p s c l : Int) (st sk re fe ag : Bool) (hRe : R = ⟨p, 1, st, sk, re⟩) (t : Int) (rb bs g1 c1 g2 c2 n1 n0 : Nat) (la lp f : Int) (xs ys path : List Int) (v : Value)
    (hp : 2 ≤ p) (hp8 : p ≤ 8) (hl : Lap R xs ys f t) (hb : Below w.heap.size w W) (hr : RuAt W rb p s c l st sk re fe ag)
    (hs : SoS W w.heap.size bs g1 c1 g2 c2 n1 la lp xs ys) (hrow : W.ownsRow n0 2 1 v path.length (nvs path)) (hn0 : n0 ≤ W.heap.size) (hwn : w.heap.size ≤ n0)
    (e0 : rb < n0) (e1 : bs < n0) (e2 : g1 < n0) (e3 : g2 < n0) (d1 : rb ≠ bs) (d2 : rb ≠ g1) (d3 : rb ≠ g2) (hlp : 0 ≤ lp) (hlp2 : lp ≤ 1000) (hpath : path.length ≤ 100000) (hbs : w.heap.size ≤ bs) :
    Calls Try.prog 97 #[.pointer (some ⟨rb, 0, none⟩), .pointer (some ⟨bs, 0, none⟩), .int .i64 1, .int .i64 f, v] W (LapD w W R (fun u => RuAt u rb p s c l st sk re fe ag) bs g1 c1 g2 c2 n1 n0 lp f xs ys path) := by
  obtain ⟨i0, hi, hz0, hz1, hz2⟩ := info_parts infoN
  have hR : Rl.Fit R := by
    subst hRe
    exact ⟨hp, hp8, by simp⟩
  have hRp : R.p = p := by rw [hRe]
  have HAt : Hid (∀ f i, R.at f i = plc p 1 st sk f i) := Lib.hid fun f i => by rw [hRe]; rfl
  have HPl : Hid (∀ zs y, putY R.pl zs y = putY 1 zs y) := Lib.hid fun zs y => by rw [hRe]
  obtain ⟨F, rfl⟩ : ∃ F : Nat, f = F := ⟨f.toNat, by have := hl.f0; omega⟩
  have hF : F < n1 := by have h1 := hl.brd.lx; have h2 := hl.f1; have h3 := hs.l1; rw [hRp] at h1 h2; omega
  have hx := hs.x hF
  have hcn := hl.num
  have hne := hl.ne
  have hle := hl.num_le
  rw [Int.toNat_natCast] at hcn hne
  obtain ⟨_, k0, k1, k2, k3⟩ := hs.so
  have hfr := hs.fr
  have Hl := Lib.hid hl
  have Hb := Lib.hid hb
  have Hr := Lib.hid hr
  have Hs := Lib.hid hs
  have Hrow := Lib.hid hrow
  have Hn := Lib.hid hcn
  have HR := Lib.hid hR
  obtain ⟨x1, x2, x3⟩ := hx
  have q0 : (0 : Int) ≤ (F : Int) := by omega
  have q1 : (F : Int) < (n1 : Int) := by omega
  have hS0 : SoS (W.setCell ⟨g1, F, none⟩ (.int .i64 0)) w.heap.size bs g1 c1 g2 c2 n1 la lp (cx R xs F 0) (cy R ys F 0) := by
    have := hs.setX hF 0
    show SoS _ _ _ _ _ _ _ _ _ _ (xs.set ((F : Nat) : Int).toNat 0) ys
    rwa [Int.toNat_natCast]
  have HS0 := Lib.hid hS0
  clear hl hb hr hs hrow hcn hR hfr hS0 hne
  rw [← Hn.out] at x1
  generalize hcc : cnt xs (F : Int) = C at *
  have Hcc := Lib.hid hcc
  clear hcc
  go_enter Try.func97, Try.ntmps97
  go_wp2_with fail
  have HI0 : Hid (LapI w R (fun u => RuAt u rb p s c l st sk re fe ag) bs g1 c1 g2 c2 n1 n0 la lp F xs ys path 0 v (W.setCell ⟨g1, F, none⟩ (.int .i64 0))) :=
    Lib.hid ⟨Hb.out.setCell (p := ⟨g1, F, none⟩) (Hs.out.o1.new) _, Hr.out.but ((But.refl g1 W).setCell rfl _) d2, HS0.out, by
      have := own_but Hrow.out ((But.refl g1 W).setCell (p := ⟨g1, F, none⟩) rfl (.int .i64 0)) e2
      simpa [lapP] using this⟩
  have HA0 : Hid (NearK p 1 st sk F 0 F) := Lib.hid ⟨by omega, by have := Hl.out.f1; rw [hRp] at this; exact this, rfl⟩
  have hC1 : 1 ≤ C := by have := Hl.out.num_pos; rw [Hcc.out] at this; exact this
  have hl0 : ¬ (0 : Nat) = C := by omega
  have Hl0 := Lib.hid hl0
  have hn02 : n0 ≤ (W.setCell ⟨g1, F, none⟩ (.int .i64 0)).heap.size := by simpa using hn0
  have Hl2 := Lib.hid (show W.heap.size ≤ (W.setCell ⟨g1, F, none⟩ (.int .i64 0)).heap.size by simp)
  have HRp := Lib.hid hRp
  have HRe := Lib.hid hRe
  clear hRp hRe HS0 Hs Hrow Hb Hr hl0 x1 x2 k0 k1 k2 k3
  generalize W.setCell ⟨g1, F, none⟩ (.int .i64 0) = W1 at *
  go_loopg [4, 11, 12] (mzL C 0 F F) (fun q pv sv plv wr => ∃ (i : Nat) (y : Int), q = mzL C i y F ∧ i ≤ C ∧ sv = .int .i64 ((C : Int) - i) ∧ plv = .int .i64 y ∧ NearK p 1 st sk F i y ∧ (i = C → y = lst R xs F) ∧ LapI w R (fun u => RuAt u rb p s c l st sk re fe ag) bs g1 c1 g2 c2 n1 n0 la lp F xs ys path i pv wr ∧ W.heap.size ≤ wr.heap.size)
  case atStart => exact ⟨0, F, rfl, Nat.zero_le _, by simp, rfl, HA0.out, fun h => absurd h Hl0.out, HI0.out, Hl2.out⟩
  case round =>
    obtain ⟨i, y, rfl, hiC, rfl, rfl, hnear, hlast, hI, hbig⟩ := hrel
    have Hnear := Lib.hid hnear
    have Hlast := Lib.hid hlast
    have HI := Lib.hid hI
    have Hbig := Lib.hid hbig
    obtain ⟨_, r0, r1, r2, r3, r4, r5, r6, r7, r8⟩ := hI.ru
    obtain ⟨_, k0, k1, k2, k3⟩ := hI.so.so
    have hfr := hI.so.fr
    have hfr2 := hfr 2
    have hfr3 := hfr 3
    have hnw : n0 ≤ wr.heap.size := Nat.le_trans hn0 hbig
    clear hlast hI hbig hfr HI0 HA0 hn02 Hl2
    by_cases hlt : i < C
    · have q2 : (1 : Int) ≤ (C : Int) - i := by omega
      have q3 : (C : Int) - i ≤ 96 := by omega
      obtain ⟨z, hz⟩ : ∃ z, nx p 1 st y = z := ⟨_, rfl⟩
      have hzb := nx_bd (pl := 1) (st := st) hp hnear.1 hnear.2.1
      rw [hz] at hzb
      have HNx : Hid (∀ u, RuAt u rb p s c l st sk re fe ag → Calls Try.prog 112 #[.pointer (some ⟨rb, 0, none⟩), .int .i64 1, .int .i64 y] u fun e w' => e = .returned (.int .i64 z) ∧ u = w') :=
        Lib.hid fun u hu => by
          obtain ⟨_, a0, _, a2, _⟩ := hu
          have := specNext1 p y st rb u a0 a2 hp hp8 hnear.1 hnear.2.1
          rwa [hz] at this
      have Hz := Lib.hid hz
      clear hz hnear
      by_cases hsk : (sk && decide (z = (F : Int))) = true
      · have hyF : ¬ y = F := by
          intro e
          have h1 : sk = true ∧ z = (F : Int) := by simpa using hsk
          exact nx_ne (pl := 1) (st := st) hp (by omega) (by rw [e] at Hz; exact Hz.out.trans h1.2)
        have HyF := Lib.hid hyF
        have HN : Hid (NearK p 1 st sk F i F) := Lib.hid ⟨by omega, by have := Hl.out.f1; rw [HRp.out] at this; exact this, by
          rw [nxF_self hp (by omega), ← Hnear.out.2.2, nxF_yes (by rw [Hz.out]; exact hsk)]⟩
        have h1 : sk = true ∧ z = (F : Int) := by simpa using hsk
        obtain ⟨rfl, rfl⟩ := h1
        clear hsk hyF
        go_wp2_with (go_at_call 112; refine (HNx.out _ (by with_reducible exact HI.out.ru)).mono ?_; rintro e w' ⟨rfl, rfl⟩)
        go_roundg (mzL C i F F)
        case measure => exact mzL_skip HyF.out
        case rel => exact ⟨i, F, rfl, hiC, rfl, rfl, HN.out, fun h => absurd h (by omega), HI.out, Hbig.out⟩
      · have hpl : plc p 1 st sk F i = z := by
          rw [← Hnear.out.2.2, nxF_no (by rw [Hz.out]; exact (by cases hh : (sk && decide (z = (F : Int))) <;> simp_all)), Hz.out]
        have hd2 := skL_cases hsk
        have Hpl := Lib.hid hpl
        have HN : Hid (NearK p 1 st sk F (i + 1) z) := Lib.hid ⟨hzb.1, hzb.2, by show _ = nxF p 1 st sk F (plc p 1 st sk F i); rw [hpl]⟩
        have hbd := Hl.out.mid HR.out i
        have hbd3 := hbd.bd
        have hhi := Hl.out.hi
        rw [Hcc.out] at hbd3
        have HBd := Lib.hid hbd3
        clear hsk hpl hbd hbd3
        rcases hd2 with rfl | ⟨rfl, hd2⟩
        all_goals
          by_cases hs1 : z = -1
          · subst hs1
            obtain ⟨y1, y2, y3⟩ := HI.out.so.y (i := 1) (by decide)
            have hyb := (HBd.out 1).2
            have HS2 : Hid (SoS (wr.setCell ⟨g2, 1, none⟩ (.int .i64 ((cy R ys F i).getD 1 0 + 1))) w.heap.size bs g1 c1 g2 c2 n1 la lp (cx R xs F (i + 1)) (cy R ys F (i + 1))) := by
              have := HI.out.so.setY (i := 1) (by decide) ((cy R ys F i).getD 1 0 + 1)
              have e1 : cx R xs F (i + 1) = cx R xs F i := by
                show putX _ (R.at F i) = _
                rw [HAt.out, Hpl.out]
                rfl
              have e2 : cy R ys F (i + 1) = (cy R ys F i).set 1 ((cy R ys F i).getD 1 0 + 1) := by
                show putY R.pl _ (R.at F i) = _
                rw [HPl.out, HAt.out, Hpl.out]
                rfl
              rw [e1, e2]
              exact Lib.hid this
            generalize (cy R ys F i).getD 1 0 = yv at *
            obtain ⟨hy0, hy1⟩ := hyb
            have hy2 : yv ≤ 96 := by omega
            clear hy1
            have HB2 := Lib.hid (HI.out.below.setCell (p := ⟨g2, 1, none⟩) (HI.out.so.o2.new) (.int .i64 (yv + 1)))
            have HRu2 := Lib.hid (HI.out.ru.but ((But.refl g2 wr).setCell (p := ⟨g2, 1, none⟩) rfl (.int .i64 (yv + 1))) d3)
            have HRow2 := Lib.hid (own_but HI.out.row ((But.refl g2 wr).setCell (p := ⟨g2, 1, none⟩) rfl (.int .i64 (yv + 1))) e3)
            have Hsz2 : Hid (wr.heap.size = (wr.setCell ⟨g2, 1, none⟩ (.int .i64 (yv + 1))).heap.size) := Lib.hid (by simp)
            go_upto_region 10 with (go_at_call 112; refine (HNx.out _ (by with_reducible exact HI.out.ru)).mono ?_; rintro e w' ⟨rfl, rfl⟩)
            clear r0 r1 r2 r3 r4 r5 r6 r7 r8 k0 k1 k2 k3 y1 y2 y3
            generalize wr.setCell ⟨g2, 1, none⟩ (.int .i64 (yv + 1)) = W2 at *
            have hn2 : n0 ≤ W2.heap.size := by have := Hsz2.out; omega
            have hbig2 : W.heap.size ≤ W2.heap.size := by have := Hsz2.out; have := Hbig.out; omega
            have hp2 : path.length + i ≤ 200000 := by omega
            go_wp2_with (at_builtin; refine wpList_append_own _ rfl _ _ 24 rfl n0 2 i0 (.int .i64 0) 1 8 Try.underlying24 hi hz0 hz1 hz2 rfl (by decide) _ (path.length + i) (nvs (path ++ lapP R F i)) rfl (own_keep HRow2.out ((Below.refl _ _).alloc (Nat.le_refl _) _)) ⟨W2.heap.size, 0, none⟩ 1 1 (nvs [-1]) rfl (by simp [nvs]) (row_news (row_oneL W2 (-1) 2)) (nvs_cell _) (by unfold maxLen; omega) (by omega) (by simp; omega) ?_; intro v1 w3 hown3 hgrow3 hnil3; have Hown3 := Lib.hid hown3; have Hgrow3 := Lib.hid hgrow3; clear hown3 hgrow3 hnil3)
            have hrl := (own_keep HRow2.out ((Below.refl _ W2).alloc (Nat.le_refl _) (.cells #[.int .i64 (-1)] 2))).lt
            have HRl := Lib.hid hrl
            clear hrl
            go_roundg (mzL C (i + 1) (-1) F)
            case measure => exact mzL_lt (by omega) hlt
            case rel =>
              refine ⟨i + 1, -1, rfl, by omega, by go_num, rfl, HN.out, fun h => ?_, ⟨?_, ?_, ?_, ?_⟩, ?_⟩
              · unfold lst
                rw [Hcc.out, ← h, HAt.out]
                exact Hpl.out.symm
              · exact (HB2.out.alloc HB2.out.size _).grown Hgrow3.out (by have := HB2.out.size; simp; omega) (fun k hk => by have := (HRl.out k hk).1; omega)
              · exact (HRu2.out.below ((Below.refl _ _).alloc (Nat.le_refl _) _)).grown Hgrow3.out (fun k hk => by have := (HRl.out k hk).1; omega)
              · exact (HS2.out.below ((Below.refl _ _).alloc (Nat.le_refl _) _)).grown Hgrow3.out (fun k hk => by have := (HRl.out k hk).1; omega)
              · have := Hown3.out
                rw [← nvs_app, List.append_assoc] at this
                have e : lapP R F (i + 1) = lapP R F i ++ [-1] := by
                  show _ ++ [R.at F i] = _
                  rw [HAt.out, Hpl.out]
                rw [e]
                exact this
              · exact Nat.le_trans hbig2 (Nat.le_trans (by simp) Hgrow3.out.size)
          · obtain ⟨m, rfl⟩ : ∃ m : Nat, z = m := ⟨z.toNat, by omega⟩
            have hm : m < n1 := by
              have h1 := Hl.out.brd.lx
              have h2 := HI.out.so.l1
              have h3 := (Hl.out.mid HR.out i).lx
              have h4 := HRp.out
              rw [h4] at h1 h3
              omega
            have hdm : ((m : Int) == -1) = false := by simp
            obtain ⟨y1, y2, y3⟩ := HI.out.so.x hm
            have hyb := (HBd.out m).1
            have p0 : (m : Int) < (n1 : Int) := by omega
            have HS2 : Hid (SoS (wr.setCell ⟨g1, m, none⟩ (.int .i64 ((cx R xs F i).getD m 0 + 1))) w.heap.size bs g1 c1 g2 c2 n1 la lp (cx R xs F (i + 1)) (cy R ys F (i + 1))) := by
              have := HI.out.so.setX hm ((cx R xs F i).getD m 0 + 1)
              have e2 : cy R ys F (i + 1) = cy R ys F i := by
                show putY R.pl _ (R.at F i) = _
                rw [HPl.out, HAt.out, Hpl.out]
                exact if_neg (by omega)
              have e1 : cx R xs F (i + 1) = (cx R xs F i).set m ((cx R xs F i).getD m 0 + 1) := by
                show putX _ (R.at F i) = _
                rw [HAt.out, Hpl.out]
                unfold putX
                rw [if_neg (by omega)]
                rfl
              rw [e1, e2]
              exact Lib.hid this
            generalize (cx R xs F i).getD m 0 = yv at *
            obtain ⟨hy0, hy1⟩ := hyb
            have hy2 : yv ≤ 96 := by omega
            clear hy1 hs1
            have HB2 := Lib.hid (HI.out.below.setCell (p := ⟨g1, m, none⟩) (HI.out.so.o1.new) (.int .i64 (yv + 1)))
            have HRu2 := Lib.hid (HI.out.ru.but ((But.refl g1 wr).setCell (p := ⟨g1, m, none⟩) rfl (.int .i64 (yv + 1))) d2)
            have HRow2 := Lib.hid (own_but HI.out.row ((But.refl g1 wr).setCell (p := ⟨g1, m, none⟩) rfl (.int .i64 (yv + 1))) e2)
            have Hsz2 : Hid (wr.heap.size = (wr.setCell ⟨g1, m, none⟩ (.int .i64 (yv + 1))).heap.size) := Lib.hid (by simp)
            go_upto_region 10 with (go_at_call 112; refine (HNx.out _ (by with_reducible exact HI.out.ru)).mono ?_; rintro e w' ⟨rfl, rfl⟩)
            clear r0 r1 r2 r3 r4 r5 r6 r7 r8 k0 k1 k2 k3 y1 y2 y3
            generalize wr.setCell ⟨g1, m, none⟩ (.int .i64 (yv + 1)) = W2 at *
            have hn2 : n0 ≤ W2.heap.size := by have := Hsz2.out; omega
            have hbig2 : W.heap.size ≤ W2.heap.size := by have := Hsz2.out; have := Hbig.out; omega
            have hp2 : path.length + i ≤ 200000 := by omega
            go_wp2_with (at_builtin; refine wpList_append_own _ rfl _ _ 24 rfl n0 2 i0 (.int .i64 0) 1 8 Try.underlying24 hi hz0 hz1 hz2 rfl (by decide) _ (path.length + i) (nvs (path ++ lapP R F i)) rfl (own_keep HRow2.out ((Below.refl _ _).alloc (Nat.le_refl _) _)) ⟨W2.heap.size, 0, none⟩ 1 1 (nvs [(m : Int)]) rfl (by simp [nvs]) (row_news (row_oneL W2 ((m : Int)) 2)) (nvs_cell _) (by unfold maxLen; omega) (by omega) (by simp; omega) ?_; intro v1 w3 hown3 hgrow3 hnil3; have Hown3 := Lib.hid hown3; have Hgrow3 := Lib.hid hgrow3; clear hown3 hgrow3 hnil3)
            have hrl := (own_keep HRow2.out ((Below.refl _ W2).alloc (Nat.le_refl _) (.cells #[.int .i64 ((m : Int))] 2))).lt
            have HRl := Lib.hid hrl
            clear hrl
            go_roundg (mzL C (i + 1) ((m : Int)) F)
            case measure => exact mzL_lt (by omega) hlt
            case rel =>
              refine ⟨i + 1, (m : Int), rfl, by omega, by go_num, rfl, HN.out, fun h => ?_, ⟨?_, ?_, ?_, ?_⟩, ?_⟩
              · unfold lst
                rw [Hcc.out, ← h, HAt.out]
                exact Hpl.out.symm
              · exact (HB2.out.alloc HB2.out.size _).grown Hgrow3.out (by have := HB2.out.size; simp; omega) (fun k hk => by have := (HRl.out k hk).1; omega)
              · exact (HRu2.out.below ((Below.refl _ _).alloc (Nat.le_refl _) _)).grown Hgrow3.out (fun k hk => by have := (HRl.out k hk).1; omega)
              · exact (HS2.out.below ((Below.refl _ _).alloc (Nat.le_refl _) _)).grown Hgrow3.out (fun k hk => by have := (HRl.out k hk).1; omega)
              · have := Hown3.out
                rw [← nvs_app, List.append_assoc] at this
                have e : lapP R F (i + 1) = lapP R F i ++ [(m : Int)] := by
                  show _ ++ [R.at F i] = _
                  rw [HAt.out, Hpl.out]
                rw [e]
                exact this
              · exact Nat.le_trans hbig2 (Nat.le_trans (by simp) Hgrow3.out.size)
    · obtain rfl : i = C := by omega
      have hd0 : decide (0 < (i : Int) - i) = false := by simp
      have hy := Hlast.out rfl
      have Hy := Lib.hid hy
      have HS3 := Lib.hid ((HI.out.so.setLast y).setLaps (lp + 1))
      have HB3 := Lib.hid ((HI.out.below.setCell (p := ⟨bs, 2, none⟩) hbs (.int .i64 y)).setCell (p := ⟨bs, 3, none⟩) hbs (.int .i64 (lp + 1)))
      have HRu3 := Lib.hid ((HI.out.ru.but ((But.refl bs wr).setCell (p := ⟨bs, 2, none⟩) rfl (.int .i64 y)) d1).but ((But.refl bs _).setCell (p := ⟨bs, 3, none⟩) rfl (.int .i64 (lp + 1))) d1)
      have HRow3 := Lib.hid (own_but (own_but HI.out.row ((But.refl bs wr).setCell (p := ⟨bs, 2, none⟩) rfl (.int .i64 y)) e1) ((But.refl bs _).setCell (p := ⟨bs, 3, none⟩) rfl (.int .i64 (lp + 1))) e1)
      clear hy hnear
      go_wp2_with fail
      go_ret
      refine ⟨_, rfl, HB3.out, HRu3.out, ?_, ?_, by simpa using Hbig.out⟩
      · rw [Hcc.out, ← Hy.out]
        exact HS3.out
      · rw [Hcc.out]
        exact HRow3.out
end Go.Proofs.Ytmngmbpdiaocjaa
