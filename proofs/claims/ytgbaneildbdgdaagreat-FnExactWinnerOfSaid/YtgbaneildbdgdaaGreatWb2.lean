/- Cap12, Tk5, Turn4, Sl4, ITurn4, View4, Begin5, BegY5, Sow3, Sow5S, Tk7, LawB4, Game1, Game2, one after the other (what the laws reach of them). No conditions. -/
import Derived.Test.YtgbaneildbdgdaaGreatWb1
import Derived.Deep.AppendLies
import Derived.Lib.AppendZerosOnto
import Derived.Laws.CopyOwn
import Derived.WalkSpells
import Derived.Test.YtgbaneildbdgdaaGreatCh2More
import Derived.Test.YtgbaneildbdgdaaGreatLap5
import Derived.Deep.MidRow
namespace Go.Proofs.YtgbaneildbdgdaaGreat
open Go.Joins Go.ChangeShapes Go.WideShapes Go.ChangeAt Go.RowKit Go.Deep
set_option linter.unusedVariables false
set_option maxHeartbeats 8000000
set_option maxRecDepth 100000
/- Cap12 -/
structure Zero14 (u : World) (z : Nat) : Prop where
 lt : z < u.heap.size
 c0 : u.cell? ⟨z, 0, none⟩ = some (.int .i64 0)
 c1 : u.cell? ⟨z, 1, none⟩ = some (.int .i64 0)
 c2 : u.cell? ⟨z, 2, none⟩ = some (.bool false)
 c3 : u.cell? ⟨z, 3, none⟩ = some (.bool false)
 c4 : u.cell? ⟨z, 4, none⟩ = some (.bool false)
 c5 : u.cell? ⟨z, 5, none⟩ = some (.bool false)
 c6 : u.cell? ⟨z, 6, none⟩ = some (.bool false)
 c7 : u.cell? ⟨z, 7, none⟩ = some (.int .i64 0)
 c8 : u.cell? ⟨z, 8, none⟩ = some (.int .i64 0)
 c9 : u.cell? ⟨z, 9, none⟩ = some (.int .i64 0)
 c10 : u.cell? ⟨z, 10, none⟩ = some (.slice none 0 0)
 c11 : u.cell? ⟨z, 11, none⟩ = some (.slice none 0 0)
 c12 : u.cell? ⟨z, 12, none⟩ = some (.int .i64 0)
 c13 : u.cell? ⟨z, 13, none⟩ = some (.int .i64 0)
 fr : ∀ o, u.frozen? ⟨z, o, none⟩ = false
theorem Zero14.below {u v : World} {z : Nat} (h : Zero14 u z) (k : Below u.heap.size u v) : Zero14 v z := by
 have e := fun o => k.cell (p := ⟨z, o, none⟩) h.lt
 exact ⟨Nat.lt_of_lt_of_le h.lt k.size, (e _).trans h.c0, (e _).trans h.c1, (e _).trans h.c2, (e _).trans h.c3, (e _).trans h.c4, (e _).trans h.c5, (e _).trans h.c6, (e _).trans h.c7, (e _).trans h.c8, (e _).trans h.c9, (e _).trans h.c10, (e _).trans h.c11, (e _).trans h.c12, (e _).trans h.c13, fun o => (k.frozen (p := ⟨z, o, none⟩) h.lt).trans (h.fr o)⟩
structure BcAt (w : World) (p s c l : Int) (st sk re fe ag : Bool) (p1 p2 : Option Addr) (pn1 pc1 pn2 pc2 : Nat) (pp pq : Int) (u : World) : Prop where
 rs : RsAt w p s c l st sk re fe ag p1 p2 pn1 pc1 pn2 pc2 pp pq u
 z : Zero14 u (w.heap.size + 1 + 1)
theorem BcAt.below {w u v : World} {p s c l : Int} {st sk re fe ag : Bool} {p1 p2 : Option Addr} {pn1 pc1 pn2 pc2 : Nat} {pp pq : Int} (h : BcAt w p s c l st sk re fe ag p1 p2 pn1 pc1 pn2 pc2 pp pq u) (k : Below u.heap.size u v) : BcAt w p s c l st sk re fe ag p1 p2 pn1 pc1 pn2 pc2 pp pq v := ⟨h.rs.below k, h.z.below k⟩
/- Tk5 -/
theorem zero_posB : ∀ (L : List Int) {xs : List Int}, posB xs = true → posB (zeroAt xs L) = true
 | [], _, h => h
 | k :: r, _, h => zero_posB r (posB_set h (Int.le_refl 0))
theorem sumAt_cons (xs : List Int) (k : Int) (r : List Int) : sumAt xs (k :: r) = vAt xs k + sumAt xs r := by
 unfold sumAt
 simp [tot]
theorem sumAt_set {xs : List Int} {k : Int} : ∀ {r : List Int}, (∀ j ∈ r, 0 ≤ j) → 0 ≤ k → k ∉ r → sumAt (xs.set k.toNat 0) r = sumAt xs r
 | [], _, _, _ => rfl
 | j :: r, h0, hk, h => by
  have h1 : j ≠ k := fun e => h (e ▸ List.mem_cons_self)
  have h2 := h0 j List.mem_cons_self
  rw [sumAt_cons, sumAt_cons, sumAt_set (fun x hx => h0 x (List.mem_cons_of_mem _ hx)) hk (fun hm => h (List.mem_cons_of_mem _ hm))]
  unfold vAt
  rw [List.getD_eq_getElem?_getD, List.getD_eq_getElem?_getD, List.getElem?_set_ne (by omega)]
theorem zero_tot : ∀ (L : List Int) {xs : List Int}, (∀ k ∈ L, 0 ≤ k ∧ k < (xs.length : Int)) → L.Nodup → tot (zeroAt xs L) = tot xs - sumAt xs L
 | [], xs, _, _ => by simp [zeroAt, sumAt, tot]
 | k :: r, xs, h, hd => by
  have h1 := h k List.mem_cons_self
  have h2 := List.nodup_cons.1 hd
  rw [zeroAt, zero_tot r (by rw [List.length_set]; exact fun x hx => h x (List.mem_cons_of_mem _ hx)) h2.2, sumAt_cons, sumAt_set (fun x hx => (h x (List.mem_cons_of_mem _ hx)).1) h1.1 h2.1, tot_set (by omega)]
  unfold vAt
  omega
def tkX (c l p pl la : Int) (xs : List Int) : List Int := zeroAt xs (pitsF c l p pl la xs)
def tkY (c l p pl la : Int) (xs ys : List Int) : List Int := ys.set pl.toNat (ys.getD pl.toNat 0 + sumAt xs (pitsF c l p pl la xs))
section
variable {p s c l player : Int} {st sk re fe ag : Bool} {pn1 pn2 : Nat} {pp : Int} {xs ys : List Int}
theorem tkX_len : (tkX c l p player pp xs).length = xs.length := zero_len _ _
theorem tkY_len : (tkY c l p player pp xs ys).length = ys.length := by simp [tkY]
theorem Good.sum (g : Good p s c l st sk re fe ag player pn1 pn2 pp xs ys) (l1 : xs.length = pn1) : tot (tkX c l p player pp xs) = tot xs - sumAt xs (pitsF c l p player pp xs) ∧ 0 ≤ sumAt xs (pitsF c l p player pp xs) ∧ sumAt xs (pitsF c l p player pp xs) ≤ tot xs := by
 have h1 := zero_tot (pitsF c l p player pp xs) (xs := xs) (fun k hk => by have := pits_in g.l2 k hk; have := g.n1; omega) (pits_nodup _ _ _ _ _ _)
 have h2 := posB_tot (zero_posB (pitsF c l p player pp xs) g.q1)
 have h3 := (sumAt_bd g.q1 g.t1 (pitsF c l p player pp xs)).1
 exact ⟨h1, h3, by omega⟩
theorem Good.ylt (g : Good p s c l st sk re fe ag player pn1 pn2 pp xs ys) (l2 : ys.length = pn2) : player.toNat < ys.length := by
 have := g.n2
 rcases g.pl with h | h <;> rw [h, l2, this] <;> decide
theorem Good.tk (g : Good p s c l st sk re fe ag player pn1 pn2 pp xs ys) (l1 : xs.length = pn1) (l2 : ys.length = pn2) :
  posB (tkX c l p player pp xs) = true ∧ posB (tkY c l p player pp xs ys) = true ∧ tot (tkX c l p player pp xs) + tot (tkY c l p player pp xs ys) = tot xs + tot ys := by
 have h := g.sum l1
 refine ⟨zero_posB _ g.q1, posB_set g.q2 (by have := posB_getD g.q2 player.toNat; omega), ?_⟩
 unfold tkY
 rw [tot_set (g.ylt l2)]
 omega
end
/- Sl4 -/
theorem clone_any (a : Option Addr) (c n : Nat) (xs : List Int) (w : World) (hn : xs.length = n) (h : RowN w a xs) (hne : xs ≠ []) :
  Calls Tryz.prog 147 #[.slice a n c] w (OwnP xs n w) := by
 have hl : n ≤ 1000000000000 := by rw [← hn]; exact h.1
 obtain ⟨i0, hi, hz0, hz1, hz2⟩ := info_parts infoN
 obtain ⟨g, o, rfl, hg, hx⟩ := h.2.resolve_left hne
 have Hn := Lib.hid hn
 have H := Lib.hid h
 have qe : ∀ (w : World) (a : Option Addr) (n c n' c' : Nat), (binOp .eql 24 (.slice a n c) (.slice none n' c')).run Tryz.prog w = .ok (.bool a.isNone) w := fun w a n c n' c' => Lib.run_eql_slice_nil w _ _ a n c n' c' Tryz.underlying24
 clear hn h hne hx
 go_enter Tryz.func147, Tryz.ntmps147
 go_wp2_with (at_builtin; refine wpList_append_own _ rfl _ _ 24 rfl w.heap.size 2 i0 (.int .i64 0) 1 8 Tryz.underlying24 hi hz0 hz1 hz2 rfl (by decide) _ 0 [] rfl (World.ownsRow_made w #[] 0 (Nat.le_refl _) (by decide) rfl) ⟨g, o, none⟩ n c (nvs xs) rfl (by rw [nvs_len, Hn.out]; simp) (row_news (H.out.alloc _)) (nvs_cell xs) (by unfold maxLen; omega) (by omega) (by simp) ?_; intro v' w1 hown1 hgrow1 hnil1)
 have hb1 : Below w.heap.size w w1 := ((Below.refl _ _).alloc (Nat.le_refl _) _).grown hgrow1 (by simp) (fun k hk => by cases hk; exact Nat.le_refl _)
 simp only [Nat.zero_add, List.nil_append] at hown1
 have HO := Lib.hid hown1
 have HB := Lib.hid hb1
 clear hown1 hb1 hgrow1 hnil1
 go_wp2
 go_ret
 exact ⟨_, rfl, HO.out, HB.out⟩
/- View4 -/
def OnW (w u : World) : Prop := Below w.heap.size w u
theorem OnW.below {w u v : World} (h : OnW w u) (k : Below u.heap.size u v) : OnW w v := Below.trans h (k.mono (Below.size h))
theorem OnW.drew {w u : World} (h : OnW w u) : OnW w u.drew := Below.drew h
theorem OnW.set3 {w u : World} {z : Nat} (h : OnW w u) (hz : w.heap.size ≤ z) (x y t : Value) : OnW w (((u.setCell ⟨z, 0, none⟩ x).setCell ⟨z, 1, none⟩ y).setCell ⟨z, 2, none⟩ t) :=
 Below.setCell (Below.setCell (Below.setCell h (p := ⟨z, 0, none⟩) hz _) (p := ⟨z, 1, none⟩) hz _) (p := ⟨z, 2, none⟩) hz _
theorem OutN.drew {w : World} {B b : Nat} {a : Option Addr} {xs : List Int} (h : OutN w B a b xs) : OutN w.drew B a b xs := h.below (Below.refl _ _).drew
theorem PoAt.drew {u : World} {d : Nat} {p1 p2 : Option Addr} {pn1 pc1 pn2 pc2 : Nat} {pp : Int} (h : PoAt u d p1 p2 pn1 pc1 pn2 pc2 pp) : PoAt u.drew d p1 p2 pn1 pc1 pn2 pc2 pp := h
theorem PoAt.set3 {u : World} {d z : Nat} {p1 p2 : Option Addr} {pn1 pc1 pn2 pc2 : Nat} {pp : Int} (h : PoAt u d p1 p2 pn1 pc1 pn2 pc2 pp) (hz : d ≠ z) (x y t : Value) : PoAt (((u.setCell ⟨z, 0, none⟩ x).setCell ⟨z, 1, none⟩ y).setCell ⟨z, 2, none⟩ t) d p1 p2 pn1 pc1 pn2 pc2 pp :=
 h.but ((((But.refl z u).setCell (p := ⟨z, 0, none⟩) rfl x).setCell (p := ⟨z, 1, none⟩) rfl y).setCell (p := ⟨z, 2, none⟩) rfl t) hz
theorem l04Own_any (p1 p2 : Option Addr) (pn1 pc1 pn2 pc2 : Nat) (pp : Int) (xs ys : List Int) (d : Nat) (w : World) (hp : PoAt w d p1 p2 pn1 pc1 pn2 pc2 pp) (h : PosR w p1 p2 pn1 pn2 xs ys) (hne1 : xs ≠ []) (hne2 : ys ≠ []) :
  Calls Tryz.prog 71 #[.pointer (some ⟨d, 0, none⟩)] w (PosQ pn1 pn2 pp xs ys w) := by
 have H := Lib.hid h
 have HN1 := Lib.hid hne1
 have HN2 := Lib.hid hne2
 have hle1 : pn1 ≤ 1000000000000 := by have := h.r1.1; rwa [h.l1] at this
 have hle2 : pn2 ≤ 1000000000000 := by have := h.r2.1; rwa [h.l2] at this
 have HP := Lib.hid (hp.below (al1 _ (.cells #[.slice none 0 0, .slice none 0 0, .int .i64 0] 33)));have HB := Lib.hid (show OnW w _ from al1 w (.cells #[.slice none 0 0, .slice none 0 0, .int .i64 0] 33));have HZ := Lib.hid (zero_new w 33);have hdz : d ≠ w.heap.size := (by have := hp.1; omega)
 have HT : Hid (∀ u : World, PoAt u (d) p1 p2 pn1 pc1 pn2 pc2 pp → OnW w u → (d < u.heap.size ∧ u.cell? ⟨d, 0, none⟩ = some (.slice p1 pn1 pc1) ∧ u.cell? ⟨d, 1, none⟩ = some (.slice p2 pn2 pc2) ∧ u.cell? ⟨d, 2, none⟩ = some (.int .i64 pp)) ∧ Below w.heap.size w u) := Lib.hid (fun u h k => ⟨h, k⟩)
 clear h hne1 hne2
 go_enter Tryz.func71, Tryz.ntmps71
 go_wp2_with fail
 go_region_held3 (fun u => (d < u.heap.size ∧ u.cell? ⟨d, 0, none⟩ = some (.slice p1 pn1 pc1) ∧ u.cell? ⟨d, 1, none⟩ = some (.slice p2 pn2 pc2) ∧ u.cell? ⟨d, 2, none⟩ = some (.int .i64 pp)) ∧ Below w.heap.size w u) (first | exact HT.out _ HP.out HB.out | exact HT.out _ HP.out.drew HB.out.drew | exact HT.out _ (HP.out.set3 hdz _ _ _) (HB.out.set3 (by omega) _ _ _))
  (first
  | (go_at_call 69; (with_reducible refine (l00Own_any p1 pc1 pn1 xs _ H.out.l1 ?_ HN1.out).mono ?_); (first | exact H.out.r1.below HB.out | exact H.out.r1.below HB.out.drew); rintro e w5 ⟨v1, rfl, hown, hb5⟩; (obtain ⟨c5, b5, rfl, o5, hlt5, hc5⟩ := outN_own hown H.out.l1 hle1 HN1.out); have O1 := Lib.hid o5; have nb1 := o5.new; have nz1 := HZ.out.lt; (first | have HP := Lib.hid (HP.out.below hb5) | have HP := Lib.hid (HP.out.drew.below hb5) | have HP := Lib.hid ((HP.out.below (al1 _ _)).below hb5) | have HP := Lib.hid ((HP.out.below (al1 _ _)).drew.below hb5)); (first | have HB := Lib.hid (HB.out.below hb5) | have HB := Lib.hid (HB.out.drew.below hb5) | have HB := Lib.hid ((HB.out.below (al1 _ _)).below hb5) | have HB := Lib.hid ((HB.out.below (al1 _ _)).drew.below hb5)); (first | have HZ := Lib.hid (HZ.out.below hb5) | have HZ := Lib.hid (HZ.out.drew.below hb5) | have HZ := Lib.hid ((HZ.out.below (al1 _ _)).below hb5) | have HZ := Lib.hid ((HZ.out.below (al1 _ _)).drew.below hb5)); clear hown hb5 o5)
  | (go_at_call 69; (with_reducible refine (l00Own_any p2 pc2 pn2 ys _ H.out.l2 ?_ HN2.out).mono ?_); (first | exact H.out.r2.below HB.out | exact H.out.r2.below HB.out.drew); rintro e w6 ⟨v2, rfl, hown, hb6⟩; (obtain ⟨c6, b6, rfl, o6, hlt6, hc6⟩ := outN_own hown H.out.l2 hle2 HN2.out); have O2 := Lib.hid o6; have nb2 := o6.new; have nz2 := HZ.out.lt; (first | have HP := Lib.hid (HP.out.below hb6) | have HP := Lib.hid (HP.out.drew.below hb6) | have HP := Lib.hid ((HP.out.below (al1 _ _)).below hb6) | have HP := Lib.hid ((HP.out.below (al1 _ _)).drew.below hb6)); (first | have HB := Lib.hid (HB.out.below hb6) | have HB := Lib.hid (HB.out.drew.below hb6) | have HB := Lib.hid ((HB.out.below (al1 _ _)).below hb6) | have HB := Lib.hid ((HB.out.below (al1 _ _)).drew.below hb6)); (first | have HZ := Lib.hid (HZ.out.below hb6) | have HZ := Lib.hid (HZ.out.drew.below hb6) | have HZ := Lib.hid ((HZ.out.below (al1 _ _)).below hb6) | have HZ := Lib.hid ((HZ.out.below (al1 _ _)).drew.below hb6)); (first | have O1 := Lib.hid (O1.out.below hb6) | have O1 := Lib.hid (O1.out.drew.below hb6) | have O1 := Lib.hid ((O1.out.below (al1 _ _)).below hb6) | have O1 := Lib.hid ((O1.out.below (al1 _ _)).drew.below hb6)); (obtain ⟨zl, z0, z1, z2, zf⟩ := HZ.out); have f0 := zf 0; have f1 := zf 1; have f2 := zf 2; clear hown hb6 o6 zf))
 have nb3 : (w.heap.size) + 1 ≤ b5 := by
  have hh := nb1
  simp at hh
  omega
 have m5 : b5 ≠ w.heap.size := by omega
 have m6 : b6 ≠ w.heap.size := by omega
 have hs5 := HB.out.size
 go_wp2_with fail
 refine bodyPost_ret (v := .agg #[.slice (some ⟨b5, 0, none⟩) pn1 c5, .slice (some ⟨b6, 0, none⟩) pn2 c6, .int .i64 pp]) (by simp [results, Tryz.results71, go_sem, z0, z1, z2]) rfl ⟨b5, c5, b6, c6, rfl, ⟨(((O1.out.setCell m5 _).setCell m5 _).setCell m5 _).lower (by first | (simp; done) | (simp; omega)), (((O2.out.setCell m6 _).setCell m6 _).setCell m6 _).lower (by first | omega | (simp; omega)), by omega, H.out.l1, H.out.l2⟩, by simp; omega, by simp; omega, hc5, hc6, HB.out.set3 (by omega) _ _ _⟩
theorem copy_any (p1 p2 : Option Addr) (pn1 pc1 pn2 pc2 : Nat) (pp : Int) (xs ys : List Int) (w : World) (h : PosR w p1 p2 pn1 pn2 xs ys) (hne1 : xs ≠ []) (hne2 : ys ≠ []) :
  Calls Tryz.prog 118 #[.agg #[.slice p1 pn1 pc1, .slice p2 pn2 pc2, .int .i64 pp]] w (PosQ pn1 pn2 pp xs ys w) := by
 have H := Lib.hid h
 have HN1 := Lib.hid hne1
 have HN2 := Lib.hid hne2
 have hle1 : pn1 ≤ 1000000000000 := by have := h.r1.1; rwa [h.l1] at this
 have hle2 : pn2 ≤ 1000000000000 := by have := h.r2.1; rwa [h.l2] at this
 have HP := Lib.hid ((po_new p1 p2 pn1 pc1 pn2 pc2 pp w 33).below (al1 _ (.cells #[.slice none 0 0, .slice none 0 0, .int .i64 0] 33)));have HB := Lib.hid (show OnW w _ from al2 w (.cells #[.slice p1 pn1 pc1, .slice p2 pn2 pc2, .int .i64 pp] 33) (.cells #[.slice none 0 0, .slice none 0 0, .int .i64 0] 33));have HZ := Lib.hid (by have h := zero_new (w.alloc (.cells #[.slice p1 pn1 pc1, .slice p2 pn2 pc2, .int .i64 pp] 33)) 33; rwa [show (w.alloc (.cells #[.slice p1 pn1 pc1, .slice p2 pn2 pc2, .int .i64 pp] 33)).heap.size = w.heap.size + 1 by simp] at h : ZeroP _ (w.heap.size + 1));have hdz : w.heap.size ≠ w.heap.size + 1 := (by omega)
 have HT : Hid (∀ u : World, PoAt u (w.heap.size) p1 p2 pn1 pc1 pn2 pc2 pp → OnW w u → (w.heap.size < u.heap.size ∧ u.cell? ⟨w.heap.size, 0, none⟩ = some (.slice p1 pn1 pc1) ∧ u.cell? ⟨w.heap.size, 1, none⟩ = some (.slice p2 pn2 pc2) ∧ u.cell? ⟨w.heap.size, 2, none⟩ = some (.int .i64 pp)) ∧ Below w.heap.size w u) := Lib.hid (fun u h k => ⟨h, k⟩)
 clear h hne1 hne2
 go_enter Tryz.func118, Tryz.ntmps118
 go_wp2_with fail
 go_region_held3 (fun u => (w.heap.size < u.heap.size ∧ u.cell? ⟨w.heap.size, 0, none⟩ = some (.slice p1 pn1 pc1) ∧ u.cell? ⟨w.heap.size, 1, none⟩ = some (.slice p2 pn2 pc2) ∧ u.cell? ⟨w.heap.size, 2, none⟩ = some (.int .i64 pp)) ∧ Below w.heap.size w u) (first | exact HT.out _ HP.out HB.out | exact HT.out _ HP.out.drew HB.out.drew | exact HT.out _ (HP.out.set3 hdz _ _ _) (HB.out.set3 (by omega) _ _ _))
  (first
  | (go_at_call 147; (with_reducible refine (clone_any p1 pc1 pn1 xs _ H.out.l1 ?_ HN1.out).mono ?_); (first | exact H.out.r1.below HB.out | exact H.out.r1.below HB.out.drew); rintro e w5 ⟨v1, rfl, hown, hb5⟩; (obtain ⟨c5, b5, rfl, o5, hlt5, hc5⟩ := outN_own hown H.out.l1 hle1 HN1.out); have O1 := Lib.hid o5; have nb1 := o5.new; have nz1 := HZ.out.lt; (first | have HP := Lib.hid (HP.out.below hb5) | have HP := Lib.hid (HP.out.drew.below hb5) | have HP := Lib.hid ((HP.out.below (al1 _ _)).below hb5) | have HP := Lib.hid ((HP.out.below (al1 _ _)).drew.below hb5)); (first | have HB := Lib.hid (HB.out.below hb5) | have HB := Lib.hid (HB.out.drew.below hb5) | have HB := Lib.hid ((HB.out.below (al1 _ _)).below hb5) | have HB := Lib.hid ((HB.out.below (al1 _ _)).drew.below hb5)); (first | have HZ := Lib.hid (HZ.out.below hb5) | have HZ := Lib.hid (HZ.out.drew.below hb5) | have HZ := Lib.hid ((HZ.out.below (al1 _ _)).below hb5) | have HZ := Lib.hid ((HZ.out.below (al1 _ _)).drew.below hb5)); clear hown hb5 o5)
  | (go_at_call 147; (with_reducible refine (clone_any p2 pc2 pn2 ys _ H.out.l2 ?_ HN2.out).mono ?_); (first | exact H.out.r2.below HB.out | exact H.out.r2.below HB.out.drew); rintro e w6 ⟨v2, rfl, hown, hb6⟩; (obtain ⟨c6, b6, rfl, o6, hlt6, hc6⟩ := outN_own hown H.out.l2 hle2 HN2.out); have O2 := Lib.hid o6; have nb2 := o6.new; have nz2 := HZ.out.lt; (first | have HP := Lib.hid (HP.out.below hb6) | have HP := Lib.hid (HP.out.drew.below hb6) | have HP := Lib.hid ((HP.out.below (al1 _ _)).below hb6) | have HP := Lib.hid ((HP.out.below (al1 _ _)).drew.below hb6)); (first | have HB := Lib.hid (HB.out.below hb6) | have HB := Lib.hid (HB.out.drew.below hb6) | have HB := Lib.hid ((HB.out.below (al1 _ _)).below hb6) | have HB := Lib.hid ((HB.out.below (al1 _ _)).drew.below hb6)); (first | have HZ := Lib.hid (HZ.out.below hb6) | have HZ := Lib.hid (HZ.out.drew.below hb6) | have HZ := Lib.hid ((HZ.out.below (al1 _ _)).below hb6) | have HZ := Lib.hid ((HZ.out.below (al1 _ _)).drew.below hb6)); (first | have O1 := Lib.hid (O1.out.below hb6) | have O1 := Lib.hid (O1.out.drew.below hb6) | have O1 := Lib.hid ((O1.out.below (al1 _ _)).below hb6) | have O1 := Lib.hid ((O1.out.below (al1 _ _)).drew.below hb6)); (obtain ⟨zl, z0, z1, z2, zf⟩ := HZ.out); have f0 := zf 0; have f1 := zf 1; have f2 := zf 2; clear hown hb6 o6 zf))
 have nb3 : (w.heap.size + 1) + 1 ≤ b5 := by
  have hh := nb1
  simp at hh
  omega
 have m5 : b5 ≠ w.heap.size + 1 := by omega
 have m6 : b6 ≠ w.heap.size + 1 := by omega
 have hs5 := HB.out.size
 go_wp2_with fail
 refine bodyPost_ret (v := .agg #[.slice (some ⟨b5, 0, none⟩) pn1 c5, .slice (some ⟨b6, 0, none⟩) pn2 c6, .int .i64 pp]) (by simp [results, Tryz.results118, go_sem, z0, z1, z2]) rfl ⟨b5, c5, b6, c6, rfl, ⟨(((O1.out.setCell m5 _).setCell m5 _).setCell m5 _).lower (by first | (simp; done) | (simp; omega)), (((O2.out.setCell m6 _).setCell m6 _).setCell m6 _).lower (by first | omega | (simp; omega)), by omega, H.out.l1, H.out.l2⟩, by simp; omega, by simp; omega, hc5, hc6, HB.out.set3 (by omega) _ _ _⟩
/- Begin5 -/
structure Zero16 (u : World) (z : Nat) : Prop where
 lt : z < u.heap.size
 c0 : u.cell? ⟨z, 0, none⟩ = some (.int .i64 0)
 c1 : u.cell? ⟨z, 1, none⟩ = some (.int .i64 0)
 c2 : u.cell? ⟨z, 2, none⟩ = some (.bool false)
 c3 : u.cell? ⟨z, 3, none⟩ = some (.bool false)
 c4 : u.cell? ⟨z, 4, none⟩ = some (.bool false)
 c5 : u.cell? ⟨z, 5, none⟩ = some (.bool false)
 c6 : u.cell? ⟨z, 6, none⟩ = some (.bool false)
 c7 : u.cell? ⟨z, 7, none⟩ = some (.int .i64 0)
 c8 : u.cell? ⟨z, 8, none⟩ = some (.int .i64 0)
 c9 : u.cell? ⟨z, 9, none⟩ = some (.int .i64 0)
 c10 : u.cell? ⟨z, 10, none⟩ = some (.int .i64 0)
 c11 : u.cell? ⟨z, 11, none⟩ = some (.int .i64 0)
 c12 : u.cell? ⟨z, 12, none⟩ = some (.slice none 0 0)
 c13 : u.cell? ⟨z, 13, none⟩ = some (.slice none 0 0)
 c14 : u.cell? ⟨z, 14, none⟩ = some (.int .i64 0)
 c15 : u.cell? ⟨z, 15, none⟩ = some (.int .i64 0)
 fr : ∀ o, u.frozen? ⟨z, o, none⟩ = false
theorem Zero16.below {u v : World} {z : Nat} (h : Zero16 u z) (k : Below u.heap.size u v) : Zero16 v z := by
 have e := fun o => k.cell (p := ⟨z, o, none⟩) h.lt
 exact ⟨Nat.lt_of_lt_of_le h.lt k.size, (e _).trans h.c0, (e _).trans h.c1, (e _).trans h.c2, (e _).trans h.c3, (e _).trans h.c4, (e _).trans h.c5, (e _).trans h.c6, (e _).trans h.c7, (e _).trans h.c8, (e _).trans h.c9, (e _).trans h.c10, (e _).trans h.c11, (e _).trans h.c12, (e _).trans h.c13, (e _).trans h.c14, (e _).trans h.c15,
  fun o => (k.frozen (p := ⟨z, o, none⟩) h.lt).trans (h.fr o)⟩
theorem Zero16.drew {u : World} {z : Nat} (h : Zero16 u z) : Zero16 u.drew z := h.below (Below.refl _ _).drew
theorem zero16_new (w : World) (T : TypeId) : Zero16 (w.alloc (.cells #[.int .i64 0, .int .i64 0, .bool false, .bool false, .bool false, .bool false, .bool false, .int .i64 0, .int .i64 0, .int .i64 0, .int .i64 0, .int .i64 0, .slice none 0 0, .slice none 0 0, .int .i64 0, .int .i64 0] T)) w.heap.size :=
 ⟨by simp, by go_simp, by go_simp, by go_simp, by go_simp, by go_simp, by go_simp, by go_simp, by go_simp, by go_simp, by go_simp, by go_simp, by go_simp, by go_simp, by go_simp, by go_simp, by go_simp, fun o => by go_simp⟩
structure BegAt (w : World) (p s c l : Int) (st sk re fe ag : Bool) (p1 p2 : Option Addr) (pn1 pc1 pn2 pc2 : Nat) (pp : Int) (u : World) : Prop where
 rp : RpAt w p s c l st sk re fe ag p1 p2 pn1 pc1 pn2 pc2 pp u
 z : Zero16 u (w.heap.size + 1 + 1)
theorem BegAt.below {w u v : World} {p s c l : Int} {st sk re fe ag : Bool} {p1 p2 : Option Addr} {pn1 pc1 pn2 pc2 : Nat} {pp : Int} (h : BegAt w p s c l st sk re fe ag p1 p2 pn1 pc1 pn2 pc2 pp u) (k : Below u.heap.size u v) : BegAt w p s c l st sk re fe ag p1 p2 pn1 pc1 pn2 pc2 pp v := ⟨h.rp.below k, h.z.below k⟩
theorem beg_new (p s c l : Int) (st sk re fe ag : Bool) (p1 p2 : Option Addr) (pn1 pc1 pn2 pc2 : Nat) (pp : Int) (w : World) (T U V : TypeId) : BegAt w p s c l st sk re fe ag p1 p2 pn1 pc1 pn2 pc2 pp (((w.alloc (.cells #[.int .i64 p, .int .i64 s, .bool st, .bool sk, .bool re, .bool fe, .bool ag, .int .i64 c, .int .i64 l] T)).alloc (.cells #[.slice p1 pn1 pc1, .slice p2 pn2 pc2, .int .i64 pp] U)).alloc (.cells #[.int .i64 0, .int .i64 0, .bool false, .bool false, .bool false, .bool false, .bool false, .int .i64 0, .int .i64 0, .int .i64 0, .int .i64 0, .int .i64 0, .slice none 0 0, .slice none 0 0, .int .i64 0, .int .i64 0] V)) :=
 ⟨(rp_new p s c l st sk re fe ag p1 p2 pn1 pc1 pn2 pc2 pp w T U).below (al1 _ _), by have := zero16_new ((w.alloc (.cells #[.int .i64 p, .int .i64 s, .bool st, .bool sk, .bool re, .bool fe, .bool ag, .int .i64 c, .int .i64 l] T)).alloc (.cells #[.slice p1 pn1 pc1, .slice p2 pn2 pc2, .int .i64 pp] U)) V; simpa using this⟩
def BegZ (k : Int) (w : World) (e : Ending) (w' : World) : Prop :=
 e = .returned (.tuple #[.agg #[.int .i64 0, .int .i64 0, .bool false, .bool false, .bool false, .bool false, .bool false, .int .i64 0, .int .i64 0, .int .i64 0, .int .i64 0, .int .i64 0, .slice none 0 0, .slice none 0 0, .int .i64 0, .int .i64 0], .int .i64 k]) ∧ Below w.heap.size w w'
theorem below16 {B z : Nat} {w u : World} (h : Below B w u) (hz : B ≤ z) (x0 x1 x2 x3 x4 x5 x6 x7 x8 x9 x10 x11 x12 x13 x14 x15 : Value) : Below B w ((((((((((((((((u.setCell ⟨z, 0, none⟩ x0).setCell ⟨z, 1, none⟩ x1).setCell ⟨z, 2, none⟩ x2).setCell ⟨z, 3, none⟩ x3).setCell ⟨z, 4, none⟩ x4).setCell ⟨z, 5, none⟩ x5).setCell ⟨z, 6, none⟩ x6).setCell ⟨z, 7, none⟩ x7).setCell ⟨z, 8, none⟩ x8).setCell ⟨z, 9, none⟩ x9).setCell ⟨z, 10, none⟩ x10).setCell ⟨z, 11, none⟩ x11).setCell ⟨z, 12, none⟩ x12).setCell ⟨z, 13, none⟩ x13).setCell ⟨z, 14, none⟩ x14).setCell ⟨z, 15, none⟩ x15) :=
 ((((((((((((((((h.setCell (p := ⟨z, 0, none⟩) hz x0).setCell (p := ⟨z, 1, none⟩) hz x1).setCell (p := ⟨z, 2, none⟩) hz x2).setCell (p := ⟨z, 3, none⟩) hz x3).setCell (p := ⟨z, 4, none⟩) hz x4).setCell (p := ⟨z, 5, none⟩) hz x5).setCell (p := ⟨z, 6, none⟩) hz x6).setCell (p := ⟨z, 7, none⟩) hz x7).setCell (p := ⟨z, 8, none⟩) hz x8).setCell (p := ⟨z, 9, none⟩) hz x9).setCell (p := ⟨z, 10, none⟩) hz x10).setCell (p := ⟨z, 11, none⟩) hz x11).setCell (p := ⟨z, 12, none⟩) hz x12).setCell (p := ⟨z, 13, none⟩) hz x13).setCell (p := ⟨z, 14, none⟩) hz x14).setCell (p := ⟨z, 15, none⟩) hz x15)
theorem but16 (z : Nat) (u : World) (x0 x1 x2 x3 x4 x5 x6 x7 x8 x9 x10 x11 x12 x13 x14 x15 : Value) : But z u ((((((((((((((((u.setCell ⟨z, 0, none⟩ x0).setCell ⟨z, 1, none⟩ x1).setCell ⟨z, 2, none⟩ x2).setCell ⟨z, 3, none⟩ x3).setCell ⟨z, 4, none⟩ x4).setCell ⟨z, 5, none⟩ x5).setCell ⟨z, 6, none⟩ x6).setCell ⟨z, 7, none⟩ x7).setCell ⟨z, 8, none⟩ x8).setCell ⟨z, 9, none⟩ x9).setCell ⟨z, 10, none⟩ x10).setCell ⟨z, 11, none⟩ x11).setCell ⟨z, 12, none⟩ x12).setCell ⟨z, 13, none⟩ x13).setCell ⟨z, 14, none⟩ x14).setCell ⟨z, 15, none⟩ x15) :=
 (((((((((((((((((But.refl z u).setCell (p := ⟨z, 0, none⟩) rfl x0).setCell (p := ⟨z, 1, none⟩) rfl x1).setCell (p := ⟨z, 2, none⟩) rfl x2).setCell (p := ⟨z, 3, none⟩) rfl x3).setCell (p := ⟨z, 4, none⟩) rfl x4).setCell (p := ⟨z, 5, none⟩) rfl x5).setCell (p := ⟨z, 6, none⟩) rfl x6).setCell (p := ⟨z, 7, none⟩) rfl x7).setCell (p := ⟨z, 8, none⟩) rfl x8).setCell (p := ⟨z, 9, none⟩) rfl x9).setCell (p := ⟨z, 10, none⟩) rfl x10).setCell (p := ⟨z, 11, none⟩) rfl x11).setCell (p := ⟨z, 12, none⟩) rfl x12).setCell (p := ⟨z, 13, none⟩) rfl x13).setCell (p := ⟨z, 14, none⟩) rfl x14).setCell (p := ⟨z, 15, none⟩) rfl x15)
theorem begin_invalid (p s c l : Int) (st sk re fe ag : Bool) (p1 p2 : Option Addr) (pn1 pc1 pn2 pc2 : Nat) (pp : Int) (xs ys : List Int) (move : Int) (w : World) (h : PosR w p1 p2 pn1 pn2 xs ys) (hk : okP (okR p s c l st ag) p pn1 pn2 pp xs ys = false) :
  Calls Tryz.prog 160 #[.agg #[.int .i64 p, .int .i64 s, .bool st, .bool sk, .bool re, .bool fe, .bool ag, .int .i64 c, .int .i64 l], .agg #[.slice p1 pn1 pc1, .slice p2 pn2 pc2, .int .i64 pp], .int .i64 move] w (BegZ 1 w) := by
 have H := Lib.hid h
 have HS := Lib.hid (beg_new p s c l st sk re fe ag p1 p2 pn1 pc1 pn2 pc2 pp w 32 33 177)
 have Hk := Lib.hid hk
 clear h hk
 go_enter Tryz.func160, Tryz.ntmps160
 go_wp2_with fail
 refine (implValid_any p s c l st sk re fe ag p1 p2 pn1 pc1 pn2 pc2 pp xs ys _ (H.out.below HS.out.rp.2.2)).mono ?_
 rintro e u ⟨rfl, hb⟩
 rw [Hk.out]
 have HS := Lib.hid (HS.out.below hb)
 obtain ⟨zl, z0, z1, z2, z3, z4, z5, z6, z7, z8, z9, z10, z11, z12, z13, z14, z15, zf⟩ := HS.out.z
 have f0 := zf 0
 have f1 := zf 1
 have f2 := zf 2
 have f3 := zf 3
 have f4 := zf 4
 have f5 := zf 5
 have f6 := zf 6
 have f7 := zf 7
 have f8 := zf 8
 have f9 := zf 9
 have f10 := zf 10
 have f11 := zf 11
 have f12 := zf 12
 have f13 := zf 13
 have f14 := zf 14
 have f15 := zf 15
 clear hb zf
 go_wp2_with fail
 refine bodyPost_ret (v := .tuple #[.agg #[.int .i64 0, .int .i64 0, .bool false, .bool false, .bool false, .bool false, .bool false, .int .i64 0, .int .i64 0, .int .i64 0, .int .i64 0, .int .i64 0, .slice none 0 0, .slice none 0 0, .int .i64 0, .int .i64 0], .int .i64 1]) (by simp [results, Tryz.results160, go_sem, z0, z1, z2, z3, z4, z5, z6, z7, z8, z9, z10, z11, z12, z13, z14, z15]) rfl ⟨rfl, ?_⟩
 exact below16 HS.out.rp.2.2 (by omega) _ _ _ _ _ _ _ _ _ _ _ _ _ _ _ _
theorem begin_range (p s c l : Int) (st sk re fe ag : Bool) (p1 p2 : Option Addr) (pn1 pc1 pn2 pc2 : Nat) (pp : Int) (xs ys : List Int) (move : Int) (w : World) (h : PosR w p1 p2 pn1 pn2 xs ys) (hk : okP (okR p s c l st ag) p pn1 pn2 pp xs ys = true) (hm : ¬ (0 ≤ move ∧ move < p)) :
  Calls Tryz.prog 160 #[.agg #[.int .i64 p, .int .i64 s, .bool st, .bool sk, .bool re, .bool fe, .bool ag, .int .i64 c, .int .i64 l], .agg #[.slice p1 pn1 pc1, .slice p2 pn2 pc2, .int .i64 pp], .int .i64 move] w (BegZ 2 w) := by
 have H := Lib.hid h
 have HS := Lib.hid (beg_new p s c l st sk re fe ag p1 p2 pn1 pc1 pn2 pc2 pp w 32 33 177)
 have Hk := Lib.hid hk
 have hok := okP_parts hk
 have hmc : moveC (okR p s c l st ag) p pp move = 2 := by
  rw [hok.1]
  simp only [moveC]
  rw [if_pos trivial, if_neg (fun h => hm h.2)]
 have Hm := Lib.hid hmc
 have Hv : Hid (movV 2 (pp * p + move) = 0) := Lib.hid rfl
 clear h hk hok hmc hm
 go_enter Tryz.func160, Tryz.ntmps160
 go_wp2_with fail
 refine (implValid_any p s c l st sk re fe ag p1 p2 pn1 pc1 pn2 pc2 pp xs ys _ (H.out.below HS.out.rp.2.2)).mono ?_
 rintro e u ⟨rfl, hb⟩
 rw [Hk.out]
 have HS := Lib.hid (HS.out.below hb)
 obtain ⟨_, g0, g1, g2, g3, g4, g5, g6, g7, g8⟩ := HS.out.rp.1
 obtain ⟨_, t0, t1, t2⟩ := HS.out.rp.2.1
 clear hb
 go_wp2_with fail
 refine (impl_pitof p s c l st sk re fe ag pp move _).mono ?_
 rintro e u2 ⟨rfl, hb2⟩
 rw [Hm.out, Hv.out]
 have HS := Lib.hid (HS.out.below hb2)
 clear hb2 g0 g1 g2 g3 g4 g5 g6 g7 g8 t0 t1 t2
 obtain ⟨zl, z0, z1, z2, z3, z4, z5, z6, z7, z8, z9, z10, z11, z12, z13, z14, z15, zf⟩ := HS.out.z
 have f0 := zf 0
 have f1 := zf 1
 have f2 := zf 2
 have f3 := zf 3
 have f4 := zf 4
 have f5 := zf 5
 have f6 := zf 6
 have f7 := zf 7
 have f8 := zf 8
 have f9 := zf 9
 have f10 := zf 10
 have f11 := zf 11
 have f12 := zf 12
 have f13 := zf 13
 have f14 := zf 14
 have f15 := zf 15
 clear zf
 go_wp2_with fail
 refine bodyPost_ret (v := .tuple #[.agg #[.int .i64 0, .int .i64 0, .bool false, .bool false, .bool false, .bool false, .bool false, .int .i64 0, .int .i64 0, .int .i64 0, .int .i64 0, .int .i64 0, .slice none 0 0, .slice none 0 0, .int .i64 0, .int .i64 0], .int .i64 2]) (by simp [results, Tryz.results160, go_sem, z0, z1, z2, z3, z4, z5, z6, z7, z8, z9, z10, z11, z12, z13, z14, z15]) rfl ⟨rfl, ?_⟩
 exact below16 HS.out.rp.2.2 (by omega) _ _ _ _ _ _ _ _ _ _ _ _ _ _ _ _
theorem begin_empty (p s c l : Int) (st sk re fe ag : Bool) (p1 p2 : Option Addr) (pn1 pc1 pn2 pc2 : Nat) (pp : Int) (xs ys : List Int) (move : Int) (w : World) (h : PosR w p1 p2 pn1 pn2 xs ys) (hk : okP (okR p s c l st ag) p pn1 pn2 pp xs ys = true) (F : Nat) (hF : F < pn1) (hf : pp * p + move = F) (hm0 : 0 ≤ move) (hm1 : move < p) (he : xs.getD F 0 = 0) :
  Calls Tryz.prog 160 #[.agg #[.int .i64 p, .int .i64 s, .bool st, .bool sk, .bool re, .bool fe, .bool ag, .int .i64 c, .int .i64 l], .agg #[.slice p1 pn1 pc1, .slice p2 pn2 pc2, .int .i64 pp], .int .i64 move] w (BegZ 6 w) := by
 have H := Lib.hid h
 have HS := Lib.hid (beg_new p s c l st sk re fe ag p1 p2 pn1 pc1 pn2 pc2 pp w 32 33 177)
 have Hk := Lib.hid hk
 have hok := okP_parts hk
 have hmc : moveC (okR p s c l st ag) p pp move = 0 := by
  rw [hok.1]
  simp only [moveC]
  rw [if_pos trivial, if_pos ⟨hok.2.2.2.1, hm0, hm1⟩]
 have Hm := Lib.hid hmc
 have Hv : Hid (movV 0 (pp * p + move) = F) := Lib.hid hf
 have hle : pn1 ≤ 1000000000000 := by have := h.r1.1; rwa [h.l1] at this
 have hx : xs[F]? = some 0 := by rw [← he]; exact getD_at (by rw [h.l1]; exact hF)
 have Hx := Lib.hid hx
 have p0 : (F : Int) < (pn1 : Int) := by omega
 clear h hk hok hmc hf he hx
 go_enter Tryz.func160, Tryz.ntmps160
 go_wp2_with fail
 refine (implValid_any p s c l st sk re fe ag p1 p2 pn1 pc1 pn2 pc2 pp xs ys _ (H.out.below HS.out.rp.2.2)).mono ?_
 rintro e u ⟨rfl, hb⟩
 rw [Hk.out]
 have HS := Lib.hid (HS.out.below hb)
 obtain ⟨_, g0, g1, g2, g3, g4, g5, g6, g7, g8⟩ := HS.out.rp.1
 obtain ⟨_, t0, t1, t2⟩ := HS.out.rp.2.1
 clear hb
 go_wp2_with fail
 refine (impl_pitof p s c l st sk re fe ag pp move _).mono ?_
 rintro e u2 ⟨rfl, hb2⟩
 rw [Hm.out, Hv.out]
 have HS := Lib.hid (HS.out.below hb2)
 clear hb2 g0 g1 g2 g3 g4 g5 g6 g7 g8 t0 t1 t2
 obtain ⟨_, t0, t1, t2⟩ := HS.out.rp.2.1
 obtain ⟨g, o, rfl, hc0⟩ := cell_of (H.out.below HS.out.rp.2.2).r1 Hx.out
 obtain ⟨zl, z0, z1, z2, z3, z4, z5, z6, z7, z8, z9, z10, z11, z12, z13, z14, z15, zf⟩ := HS.out.z
 have f0 := zf 0
 have f1 := zf 1
 have f2 := zf 2
 have f3 := zf 3
 have f4 := zf 4
 have f5 := zf 5
 have f6 := zf 6
 have f7 := zf 7
 have f8 := zf 8
 have f9 := zf 9
 have f10 := zf 10
 have f11 := zf 11
 have f12 := zf 12
 have f13 := zf 13
 have f14 := zf 14
 have f15 := zf 15
 clear zf
 go_wp2_with fail
 refine bodyPost_ret (v := .tuple #[.agg #[.int .i64 0, .int .i64 0, .bool false, .bool false, .bool false, .bool false, .bool false, .int .i64 0, .int .i64 0, .int .i64 0, .int .i64 0, .int .i64 0, .slice none 0 0, .slice none 0 0, .int .i64 0, .int .i64 0], .int .i64 6]) (by simp [results, Tryz.results160, go_sem, z0, z1, z2, z3, z4, z5, z6, z7, z8, z9, z10, z11, z12, z13, z14, z15]) rfl ⟨rfl, ?_⟩
 exact below16 HS.out.rp.2.2 (by omega) _ _ _ _ _ _ _ _ _ _ _ _ _ _ _ _
/- BegY5 -/
theorem RuAt.drew {u : World} {b : Nat} {p s c l : Int} {st sk re fe ag : Bool} (h : RuAt u b p s c l st sk re fe ag) : RuAt u.drew b p s c l st sk re fe ag := h
theorem PoAt.set4 {u : World} {d z : Nat} {p1 p2 : Option Addr} {pn1 pc1 pn2 pc2 : Nat} {pp : Int} (h : PoAt u d p1 p2 pn1 pc1 pn2 pc2 pp) (hz : d ≠ z) (x y t q : Value) : PoAt ((((u.setCell ⟨z, 0, none⟩ x).setCell ⟨z, 1, none⟩ y).setCell ⟨z, 2, none⟩ t).setCell ⟨z, 3, none⟩ q) d p1 p2 pn1 pc1 pn2 pc2 pp :=
 h.but (((((But.refl z u).setCell (p := ⟨z, 0, none⟩) rfl x).setCell (p := ⟨z, 1, none⟩) rfl y).setCell (p := ⟨z, 2, none⟩) rfl t).setCell (p := ⟨z, 3, none⟩) rfl q) hz
theorem OnW.set4 {w u : World} {z : Nat} (h : OnW w u) (hz : w.heap.size ≤ z) (x y t q : Value) : OnW w ((((u.setCell ⟨z, 0, none⟩ x).setCell ⟨z, 1, none⟩ y).setCell ⟨z, 2, none⟩ t).setCell ⟨z, 3, none⟩ q) :=
 Below.setCell (OnW.set3 h hz x y t) (p := ⟨z, 3, none⟩) hz _
theorem OnW.bel {w u : World} (h : OnW w u) : Below w.heap.size w u := h
structure Z4 (u : World) (z : Nat) : Prop where
 lt : z < u.heap.size
 c0 : u.cell? ⟨z, 0, none⟩ = some (.slice none 0 0)
 c1 : u.cell? ⟨z, 1, none⟩ = some (.slice none 0 0)
 c2 : u.cell? ⟨z, 2, none⟩ = some (.int .i64 0)
 c3 : u.cell? ⟨z, 3, none⟩ = some (.int .i64 0)
 f0 : u.frozen? ⟨z, 0, none⟩ = false
 f1 : u.frozen? ⟨z, 1, none⟩ = false
 f2 : u.frozen? ⟨z, 2, none⟩ = false
 f3 : u.frozen? ⟨z, 3, none⟩ = false
theorem Z4.below {u v : World} {z : Nat} (h : Z4 u z) (k : Below u.heap.size u v) : Z4 v z :=
 have e := fun o => k.cell (p := ⟨z, o, none⟩) h.lt
 have f := fun o => k.frozen (p := ⟨z, o, none⟩) h.lt
 ⟨Nat.lt_of_lt_of_le h.lt k.size, (e _).trans h.c0, (e _).trans h.c1, (e _).trans h.c2, (e _).trans h.c3, (f _).trans h.f0, (f _).trans h.f1, (f _).trans h.f2, (f _).trans h.f3⟩
theorem Z4.drew {u : World} {z : Nat} (h : Z4 u z) : Z4 u.drew z := h.below (Below.refl _ _).drew
theorem z4_new (u : World) (T : TypeId) : Z4 (u.alloc (.cells #[.slice none 0 0, .slice none 0 0, .int .i64 0, .int .i64 0] T)) u.heap.size :=
 ⟨by simp, by go_simp, by go_simp, by go_simp, by go_simp, by go_simp, by go_simp, by go_simp, by go_simp⟩
def BegY (p s c l : Int) (st sk re fe ag : Bool) (pp : Int) (F n1 : Nat) (xs ys : List Int) (w : World) (e : Ending) (w' : World) : Prop :=
 ∃ b5 c5 b6 c6, e = .returned (.tuple #[.agg #[.int .i64 p, .int .i64 s, .bool st, .bool sk, .bool re, .bool fe, .bool ag, .int .i64 c, .int .i64 l, .int .i64 pp, .int .i64 F, .int .i64 0, .slice (some ⟨b5, 0, none⟩) n1 c5, .slice (some ⟨b6, 0, none⟩) 2 c6, .int .i64 0, .int .i64 0], .int .i64 0]) ∧
  OutN w' w.heap.size (some ⟨b5, 0, none⟩) b5 xs ∧ OutN w' w.heap.size (some ⟨b6, 0, none⟩) b6 ys ∧ b5 ≠ b6 ∧ b5 < w'.heap.size ∧ b6 < w'.heap.size ∧ n1 ≤ c5 ∧ 2 ≤ c6 ∧ Below w.heap.size w w'
theorem but4 (z : Nat) (u : World) (x y t q : Value) : But z u ((((u.setCell ⟨z, 0, none⟩ x).setCell ⟨z, 1, none⟩ y).setCell ⟨z, 2, none⟩ t).setCell ⟨z, 3, none⟩ q) :=
 ((((But.refl z u).setCell (p := ⟨z, 0, none⟩) rfl x).setCell (p := ⟨z, 1, none⟩) rfl y).setCell (p := ⟨z, 2, none⟩) rfl t).setCell (p := ⟨z, 3, none⟩) rfl q
theorem Zero16.but {u v : World} {z b : Nat} (h : Zero16 u z) (k : But b u v) (hb : z ≠ b) : Zero16 v z := by
 have e := fun o => k.cell (o := o) h.lt hb
 exact ⟨Nat.lt_of_lt_of_le h.lt k.size, (e _).trans h.c0, (e _).trans h.c1, (e _).trans h.c2, (e _).trans h.c3, (e _).trans h.c4, (e _).trans h.c5, (e _).trans h.c6, (e _).trans h.c7, (e _).trans h.c8, (e _).trans h.c9, (e _).trans h.c10, (e _).trans h.c11, (e _).trans h.c12, (e _).trans h.c13, (e _).trans h.c14, (e _).trans h.c15,
  fun o => (k.frozen h.lt hb).trans (h.fr o)⟩
structure BegF (w : World) (p s c l : Int) (st sk re fe ag : Bool) (p1 p2 : Option Addr) (pn1 pc1 pn2 pc2 : Nat) (pp : Int) (z b5 c5 b6 c6 n1 : Nat) (xs ys : List Int) (u : World) : Prop where
 po : PoAt u (w.heap.size + 1) p1 p2 pn1 pc1 pn2 pc2 pp
 ru : RuAt u w.heap.size p s c l st sk re fe ag
 zr : Zero16 u (w.heap.size + 1 + 1)
 so : SoAt u z (some ⟨b5, 0, none⟩) (some ⟨b6, 0, none⟩) n1 c5 2 c6 0 0
 o1 : OutN u w.heap.size (some ⟨b5, 0, none⟩) b5 xs
 o2 : OutN u w.heap.size (some ⟨b6, 0, none⟩) b6 ys
 ne : b5 ≠ b6
 l5 : b5 < u.heap.size
 l6 : b6 < u.heap.size
 m5 : w.heap.size + 1 + 1 < b5
 m6 : w.heap.size + 1 + 1 < b6
 k5 : n1 ≤ c5
 k6 : 2 ≤ c6
 on : Below w.heap.size w u
theorem beg_fin {w u : World} (p s c l : Int) (st sk re fe ag : Bool) (p1 p2 : Option Addr) (pn1 pc1 pn2 pc2 : Nat) (pp : Int) {z b5 c5 b6 c6 n1 B1 B2 : Nat} {xs ys : List Int} (hp : PoAt u (w.heap.size + 1) p1 p2 pn1 pc1 pn2 pc2 pp) (hr : RuAt u w.heap.size p s c l st sk re fe ag) (hz : Zero16 u (w.heap.size + 1 + 1)) (ho : OnW w u) (hY : Z4 u z)
  (o1 : OutN u B1 (some ⟨b5, 0, none⟩) b5 xs) (o2 : OutN u B2 (some ⟨b6, 0, none⟩) b6 ys) (ne : b5 ≠ b6) (n5 : b5 ≠ z) (n6 : b6 ≠ z) (l5 : b5 < u.heap.size) (l6 : b6 < u.heap.size) (m5 : w.heap.size + 1 + 1 < b5) (m6 : w.heap.size + 1 + 1 < b6) (mz : w.heap.size + 1 + 1 < z) (hB1 : w.heap.size ≤ B1) (hB2 : w.heap.size ≤ B2) (k5 : n1 ≤ c5) (k6 : 2 ≤ c6) :
  BegF w p s c l st sk re fe ag p1 p2 pn1 pc1 pn2 pc2 pp z b5 c5 b6 c6 n1 xs ys ((((u.setCell ⟨z, 0, none⟩ (.slice (some ⟨b5, 0, none⟩) n1 c5)).setCell ⟨z, 1, none⟩ (.slice (some ⟨b6, 0, none⟩) 2 c6)).setCell ⟨z, 2, none⟩ (.int .i64 0)).setCell ⟨z, 3, none⟩ (.int .i64 0)) := by
 have hb := but4 z u (.slice (some ⟨b5, 0, none⟩) n1 c5) (.slice (some ⟨b6, 0, none⟩) 2 c6) (.int .i64 0) (.int .i64 0)
 obtain ⟨yl, y0, y1, y2, y3, k0, k1, k2, k3⟩ := hY
 exact ⟨hp.but hb (by omega), hr.but hb (by omega), hz.but hb (by omega), ⟨by simpa using yl, by go_simp, by go_simp, by go_simp, by go_simp⟩, (o1.but hb n5).lower hB1, (o2.but hb n6).lower hB2, ne, by simpa using l5, by simpa using l6, m5, m6, k5, k6, ho.set4 (by omega) _ _ _ _⟩
theorem beg_fin2 {w u : World} (p s c l : Int) (st sk re fe ag : Bool) (p1 p2 : Option Addr) (pn1 pc1 pn2 pc2 : Nat) (pp : Int) {b5 c5 b6 c6 n1 B1 B2 : Nat} {xs ys : List Int} (T : TypeId) (hp : PoAt u (w.heap.size + 1) p1 p2 pn1 pc1 pn2 pc2 pp) (hr : RuAt u w.heap.size p s c l st sk re fe ag) (hz : Zero16 u (w.heap.size + 1 + 1)) (ho : OnW w u)
  (o1 : OutN u B1 (some ⟨b5, 0, none⟩) b5 xs) (o2 : OutN u B2 (some ⟨b6, 0, none⟩) b6 ys) (ne : b5 ≠ b6) (l5 : b5 < u.heap.size) (l6 : b6 < u.heap.size) (m5 : w.heap.size + 1 + 1 < b5) (m6 : w.heap.size + 1 + 1 < b6) (hB1 : w.heap.size ≤ B1) (hB2 : w.heap.size ≤ B2) (k5 : n1 ≤ c5) (k6 : 2 ≤ c6) :
  BegF w p s c l st sk re fe ag p1 p2 pn1 pc1 pn2 pc2 pp u.heap.size b5 c5 b6 c6 n1 xs ys (u.alloc (.cells #[.slice (some ⟨b5, 0, none⟩) n1 c5, .slice (some ⟨b6, 0, none⟩) 2 c6, .int .i64 0, .int .i64 0] T)) :=
 ⟨hp.below (al1 _ _), hr.below (al1 _ _), hz.below (al1 _ _), so_new _ _ _ _ _ _ _ _ u T, (o1.below (al1 _ _)).lower hB1, (o2.below (al1 _ _)).lower hB2, ne, by simp; omega, by simp; omega, m5, m6, k5, k6, OnW.below ho (al1 _ _)⟩
def BegM (w : World) (p s c l : Int) (st sk re fe ag : Bool) (g o : Nat) (p2 : Option Addr) (pn1 pc1 pc2 : Nat) (pp : Int) (F : Nat) (move xv : Int) (xs ys : List Int) (e : Exit) (a : Act) (W : World) : Prop :=
 e = .normal ∧ ∃ z b5 c5 b6 c6, a = { tmps := #[.agg #[.int .i64 p, .int .i64 s, .bool st, .bool sk, .bool re, .bool fe, .bool ag, .int .i64 c, .int .i64 l], .agg #[.slice (some ⟨g, o, none⟩) pn1 pc1, .slice p2 2 pc2, .int .i64 pp], .int .i64 move, .pointer (some ⟨w.heap.size, 0, none⟩), .pointer (some ⟨w.heap.size + 1, 0, none⟩), undef, .pointer (some ⟨w.heap.size + 1 + 1, 0, none⟩), .int .i64 0, .int .i64 F, .int .i64 0, .pointer (some ⟨z, 0, none⟩), .agg #[.int .i64 p, .int .i64 s, .bool st, .bool sk, .bool re, .bool fe, .bool ag, .int .i64 c, .int .i64 l], .agg #[.slice (some ⟨g, o, none⟩) pn1 pc1, .slice p2 2 pc2, .int .i64 pp], .bool true, .bool false, undef, .tuple #[.int .i64 F, .int .i64 0], .agg #[.int .i64 p, .int .i64 s, .bool st, .bool sk, .bool re, .bool fe, .bool ag, .int .i64 c, .int .i64 l], .pointer (some ⟨w.heap.size + 1, 2, none⟩), .int .i64 pp, .int .i64 move, .tuple #[.int .i64 F, .int .i64 0], .int .i64 F, .int .i64 0, .int .i64 0, .bool false, undef, undef, .pointer (some ⟨w.heap.size + 1, 0, none⟩), .slice (some ⟨g, o, none⟩) pn1 pc1, .int .i64 F, .pointer (some ⟨g, o + F, none⟩), .int .i64 xv, .bool false, undef, .pointer (some ⟨w.heap.size + 1, 0, none⟩), .slice (some ⟨g, o, none⟩) pn1 pc1, .slice (some ⟨b5, 0, none⟩) pn1 c5, .pointer (some ⟨w.heap.size + 1, 1, none⟩), .slice p2 2 pc2, .slice (some ⟨b6, 0, none⟩) 2 c6, .agg #[.slice (some ⟨b5, 0, none⟩) pn1 c5, .slice (some ⟨b6, 0, none⟩) 2 c6, .int .i64 0, .int .i64 0], undef, undef, undef, undef, undef, undef], defers := [] } ∧ BegF w p s c l st sk re fe ag (some ⟨g, o, none⟩) p2 pn1 pc1 2 pc2 pp z b5 c5 b6 c6 pn1 xs ys W
theorem begin_yes (p s c l : Int) (st sk re fe ag : Bool) (p1 p2 : Option Addr) (pn1 pc1 pn2 pc2 : Nat) (pp : Int) (xs ys : List Int) (move : Int) (w : World) (h : PosR w p1 p2 pn1 pn2 xs ys) (hk : okP (okR p s c l st ag) p pn1 pn2 pp xs ys = true) (F : Nat) (hF : F < pn1) (hf : pp * p + move = F) (hm0 : 0 ≤ move) (hm1 : move < p) (he : xs.getD F 0 ≠ 0) :
  Calls Tryz.prog 160 #[.agg #[.int .i64 p, .int .i64 s, .bool st, .bool sk, .bool re, .bool fe, .bool ag, .int .i64 c, .int .i64 l], .agg #[.slice p1 pn1 pc1, .slice p2 pn2 pc2, .int .i64 pp], .int .i64 move] w (BegY p s c l st sk re fe ag pp F pn1 xs ys w) := by
 have H := Lib.hid h
 have HS := Lib.hid (beg_new p s c l st sk re fe ag p1 p2 pn1 pc1 pn2 pc2 pp w 32 33 177)
 have Hk := Lib.hid hk
 have hok := okP_parts hk
 have hmc : moveC (okR p s c l st ag) p pp move = 0 := by
  rw [hok.1]
  simp only [moveC]
  rw [if_pos trivial, if_pos ⟨hok.2.2.2.1, hm0, hm1⟩]
 have Hm := Lib.hid hmc
 have Hv : Hid (movV 0 (pp * p + move) = F) := Lib.hid hf
 have hle1 : pn1 ≤ 1000000000000 := by have := h.r1.1; rwa [h.l1] at this
 have hle2 : pn2 ≤ 1000000000000 := by have := h.r2.1; rwa [h.l2] at this
 obtain ⟨xv, hxv⟩ : ∃ xv, xs.getD F 0 = xv := ⟨_, rfl⟩
 have hx : xs[F]? = some xv := by rw [← hxv]; exact getD_at (by rw [h.l1]; exact hF)
 have Hx := Lib.hid hx
 have hd : (xv == 0) = false := by rw [hxv] at he; simpa using he
 have p0 : (F : Int) < (pn1 : Int) := by omega
 have HN1 : Hid (xs ≠ []) := Lib.hid (by intro e; have := h.l1; subst e; simp at this; omega)
 have HN2 : Hid (ys ≠ []) := Lib.hid (by intro e; have := h.l2; have := hok.2.2.1; subst e; simp at *; omega)
 have hp2 : pn2 = 2 := hok.2.2.1
 subst hp2
 clear h hk hok hmc hf he hx hxv
 have hd0 := hd
 go_enter Tryz.func160, Tryz.ntmps160
 go_wp2_with fail
 refine (implValid_any p s c l st sk re fe ag p1 p2 pn1 pc1 2 pc2 pp xs ys _ (H.out.below HS.out.rp.2.2)).mono ?_
 rintro e u ⟨rfl, hb⟩
 rw [Hk.out]
 have HS := Lib.hid (HS.out.below hb)
 obtain ⟨_, g0, g1, g2, g3, g4, g5, g6, g7, g8⟩ := HS.out.rp.1
 obtain ⟨_, t0, t1, t2⟩ := HS.out.rp.2.1
 clear hb
 go_wp2_with fail
 refine (impl_pitof p s c l st sk re fe ag pp move _).mono ?_
 rintro e u2 ⟨rfl, hb2⟩
 rw [Hm.out, Hv.out]
 have HS := Lib.hid (HS.out.below hb2)
 clear hb2 g0 g1 g2 g3 g4 g5 g6 g7 g8 t0 t1 t2
 obtain ⟨_, t0, t1, t2⟩ := HS.out.rp.2.1
 obtain ⟨g, o, rfl, hc0⟩ := cell_of (H.out.below HS.out.rp.2.2).r1 Hx.out
 go_upto_region 8 with fail
 have HP := Lib.hid HS.out.rp.2.1
 have HU := Lib.hid HS.out.rp.1
 have HB := Lib.hid (show OnW w u2 from HS.out.rp.2.2)
 have HZ := Lib.hid HS.out.z
 have nz0 := HP.out.1
 have nb0 := HB.out.size
 clear HS t0 t1 t2 hc0
 have HT : Hid (∀ u : World, PoAt u (w.heap.size + 1) (some ⟨g, o, none⟩) p2 pn1 pc1 2 pc2 pp → OnW w u → (w.heap.size + 1 < u.heap.size ∧ u.cell? ⟨w.heap.size + 1, 0, none⟩ = some (.slice (some ⟨g, o, none⟩) pn1 pc1) ∧ u.cell? ⟨w.heap.size + 1, 1, none⟩ = some (.slice p2 2 pc2) ∧ u.cell? ⟨w.heap.size + 1, 2, none⟩ = some (.int .i64 pp)) ∧ Below w.heap.size w u) := Lib.hid (fun u h k => ⟨h, k⟩)
 refine wp_mono (Q := BegM w p s c l st sk re fe ag g o p2 pn1 pc1 pc2 pp F move xv xs ys) ?_ ?_
 rotate_left
 ·clear HP HU HB HZ HT
  rintro e a7 W7 ⟨rfl, z, b5, c5, b6, c6, rfl, hF⟩
  have HF := Lib.hid hF
  obtain ⟨_, t0, t1, t2⟩ := hF.po
  obtain ⟨_, g0, g1, g2, g3, g4, g5, g6, g7, g8⟩ := hF.ru
  obtain ⟨_, s0, s1, s2, s3⟩ := hF.so
  obtain ⟨zl, z0, z1, z2, z3, z4, z5, z6, z7, z8, z9, z10, z11, z12, z13, z14, z15, zf⟩ := hF.zr
  have f0 := zf 0
  have f1 := zf 1
  have f2 := zf 2
  have f3 := zf 3
  have f4 := zf 4
  have f5 := zf 5
  have f6 := zf 6
  have f7 := zf 7
  have f8 := zf 8
  have f9 := zf 9
  have f10 := zf 10
  have f11 := zf 11
  have f12 := zf 12
  have f13 := zf 13
  have f14 := zf 14
  have f15 := zf 15
  have mm5 : b5 ≠ w.heap.size + 1 + 1 := by have := hF.m5; omega
  have mm6 : b6 ≠ w.heap.size + 1 + 1 := by have := hF.m6; omega
  clear hF zf
  go_wp2_with fail
  refine bodyPost_ret (v := .tuple #[.agg #[.int .i64 p, .int .i64 s, .bool st, .bool sk, .bool re, .bool fe, .bool ag, .int .i64 c, .int .i64 l, .int .i64 pp, .int .i64 F, .int .i64 0, .slice (some ⟨b5, 0, none⟩) pn1 c5, .slice (some ⟨b6, 0, none⟩) 2 c6, .int .i64 0, .int .i64 0], .int .i64 0]) (by simp [results, Tryz.results160, go_sem, z0, z1, z2, z3, z4, z5, z6, z7, z8, z9, z10, z11, z12, z13, z14, z15]) rfl ?_
  exact ⟨b5, c5, b6, c6, rfl, HF.out.o1.but (but16 _ _ _ _ _ _ _ _ _ _ _ _ _ _ _ _ _ _) mm5, HF.out.o2.but (but16 _ _ _ _ _ _ _ _ _ _ _ _ _ _ _ _ _ _) mm6, HF.out.ne, by simpa using HF.out.l5, by simpa using HF.out.l6, HF.out.k5, HF.out.k6, below16 HF.out.on (by omega) _ _ _ _ _ _ _ _ _ _ _ _ _ _ _ _⟩
 go_region_held3 (fun u => (w.heap.size + 1 < u.heap.size ∧ u.cell? ⟨w.heap.size + 1, 0, none⟩ = some (.slice (some ⟨g, o, none⟩) pn1 pc1) ∧ u.cell? ⟨w.heap.size + 1, 1, none⟩ = some (.slice p2 2 pc2) ∧ u.cell? ⟨w.heap.size + 1, 2, none⟩ = some (.int .i64 pp)) ∧ Below w.heap.size w u) (first | with_reducible exact HT.out _ HP.out HB.out | with_reducible exact HT.out _ HP.out.drew HB.out.drew | with_reducible exact HT.out _ (HP.out.below (al1 _ _)) (HB.out.below (al1 _ _)) | with_reducible exact HT.out _ (HP.out.drew.below (al1 _ _)) (HB.out.drew.below (al1 _ _)) | with_reducible exact HT.out _ (HP.out.below (al1 _ _)).drew (HB.out.below (al1 _ _)).drew | with_reducible exact HT.out _ (HP.out.set4 (by omega) _ _ _ _) (HB.out.set4 (by omega) _ _ _ _) | with_reducible exact HT.out _ ((HP.out.below (al1 _ _)).set4 (by omega) _ _ _ _) ((HB.out.below (al1 _ _)).set4 (by omega) _ _ _ _))
  (first
  | (go_at_call 147; (with_reducible refine (clone_any (some ⟨g, o, none⟩) pc1 pn1 xs _ H.out.l1 ?_ HN1.out).mono ?_); (first | with_reducible exact H.out.r1.below (HB.out).bel | with_reducible exact H.out.r1.below (HB.out.drew).bel | with_reducible exact H.out.r1.below (HB.out.below (al1 _ _)).bel | with_reducible exact H.out.r1.below (HB.out.drew.below (al1 _ _)).bel | with_reducible exact H.out.r1.below ((HB.out.below (al1 _ _)).drew).bel); rintro e w5 ⟨v1, rfl, hown, hb5⟩; (obtain ⟨c5, b5, rfl, o5, hlt5, hc5⟩ := outN_own hown H.out.l1 hle1 HN1.out); have O1 := Lib.hid o5; have nb1 := o5.new; have nz1 := HZ.out.lt; (first | have HY := Lib.hid ((z4_new u2 121).drew.below hb5) | have HY := Lib.hid ((z4_new u2.drew 121).below hb5) | have HY := Lib.hid ((z4_new u2 121).below hb5) | skip); (first | have HP := Lib.hid (HP.out.below hb5) | have HP := Lib.hid (HP.out.drew.below hb5) | have HP := Lib.hid ((HP.out.below (al1 _ _)).below hb5) | have HP := Lib.hid ((HP.out.below (al1 _ _)).drew.below hb5)); (first | have HU := Lib.hid (HU.out.below hb5) | have HU := Lib.hid (HU.out.drew.below hb5) | have HU := Lib.hid ((HU.out.below (al1 _ _)).below hb5) | have HU := Lib.hid ((HU.out.below (al1 _ _)).drew.below hb5)); (first | have HB := Lib.hid (HB.out.below hb5) | have HB := Lib.hid (HB.out.drew.below hb5) | have HB := Lib.hid ((HB.out.below (al1 _ _)).below hb5) | have HB := Lib.hid ((HB.out.below (al1 _ _)).drew.below hb5)); (first | have HZ := Lib.hid (HZ.out.below hb5) | have HZ := Lib.hid (HZ.out.drew.below hb5) | have HZ := Lib.hid ((HZ.out.below (al1 _ _)).below hb5) | have HZ := Lib.hid ((HZ.out.below (al1 _ _)).drew.below hb5)); have nz5 := HP.out.1; have nb5 := HB.out.size; clear hown hb5 o5)
  | (go_at_call 147; (with_reducible refine (clone_any p2 pc2 2 ys _ H.out.l2 ?_ HN2.out).mono ?_); (first | with_reducible exact H.out.r2.below (HB.out).bel | with_reducible exact H.out.r2.below (HB.out.drew).bel | with_reducible exact H.out.r2.below (HB.out.below (al1 _ _)).bel | with_reducible exact H.out.r2.below (HB.out.drew.below (al1 _ _)).bel | with_reducible exact H.out.r2.below ((HB.out.below (al1 _ _)).drew).bel); rintro e w6 ⟨v2, rfl, hown, hb6⟩; (obtain ⟨c6, b6, rfl, o6, hlt6, hc6⟩ := outN_own hown H.out.l2 hle2 HN2.out); have O2 := Lib.hid o6; have nb2 := o6.new; have nz2 := HZ.out.lt; (first | have HY := Lib.hid (HY.out.below hb6) | have HY := Lib.hid (HY.out.drew.below hb6) | have HY := Lib.hid ((z4_new w5 121).below hb6) | have HY := Lib.hid ((z4_new w5 121).drew.below hb6) | have HY := Lib.hid ((z4_new w5.drew 121).below hb6) | skip); (try obtain ⟨yz, y0, y1, y2, y3, k0, k1, k2, k3⟩ := HY.out); (first | have HP := Lib.hid (HP.out.below hb6) | have HP := Lib.hid (HP.out.drew.below hb6) | have HP := Lib.hid ((HP.out.below (al1 _ _)).below hb6) | have HP := Lib.hid ((HP.out.below (al1 _ _)).drew.below hb6)); (first | have HU := Lib.hid (HU.out.below hb6) | have HU := Lib.hid (HU.out.drew.below hb6) | have HU := Lib.hid ((HU.out.below (al1 _ _)).below hb6) | have HU := Lib.hid ((HU.out.below (al1 _ _)).drew.below hb6)); (first | have HB := Lib.hid (HB.out.below hb6) | have HB := Lib.hid (HB.out.drew.below hb6) | have HB := Lib.hid ((HB.out.below (al1 _ _)).below hb6) | have HB := Lib.hid ((HB.out.below (al1 _ _)).drew.below hb6)); (first | have HZ := Lib.hid (HZ.out.below hb6) | have HZ := Lib.hid (HZ.out.drew.below hb6) | have HZ := Lib.hid ((HZ.out.below (al1 _ _)).below hb6) | have HZ := Lib.hid ((HZ.out.below (al1 _ _)).drew.below hb6)); (first | have O1 := Lib.hid (O1.out.below hb6) | have O1 := Lib.hid (O1.out.drew.below hb6) | have O1 := Lib.hid ((O1.out.below (al1 _ _)).below hb6) | have O1 := Lib.hid ((O1.out.below (al1 _ _)).drew.below hb6)); have nz6 := HP.out.1; have nb6 := HB.out.size; clear hown hb6 o6))
 all_goals
  (try simp at nb1)
  (try simp at nb2)
  first
  | with_reducible exact ⟨rfl, _, _, _, _, _, rfl, beg_fin _ _ _ _ _ _ _ _ _ _ _ _ _ _ _ _ HP.out HU.out HZ.out HB.out HY.out O1.out O2.out (by omega) (by omega) (by omega) (by omega) (by omega) (by omega) (by omega) (by omega) (by (try simp); omega) (by (try simp); omega) hc5 hc6⟩
  | with_reducible exact ⟨rfl, _, _, _, _, _, rfl, beg_fin2 _ _ _ _ _ _ _ _ _ _ _ _ _ _ _ _ _ HP.out HU.out HZ.out HB.out O1.out O2.out (by omega) (by omega) (by omega) (by omega) (by omega) (by (try simp); omega) (by (try simp); omega) hc5 hc6⟩
  | exact ⟨rfl, _, _, _, _, _, rfl, beg_fin _ _ _ _ _ _ _ _ _ _ _ _ _ _ _ _ HP.out HU.out HZ.out HB.out HY.out O1.out O2.out (by omega) (by omega) (by omega) (by omega) (by omega) (by omega) (by omega) (by omega) (by (try simp); omega) (by (try simp); omega) hc5 hc6⟩
  | exact ⟨rfl, _, _, _, _, _, rfl, beg_fin2 _ _ _ _ _ _ _ _ _ _ _ _ _ _ _ _ _ HP.out HU.out HZ.out HB.out O1.out O2.out (by omega) (by omega) (by omega) (by omega) (by omega) (by (try simp); omega) (by (try simp); omega) hc5 hc6⟩
/- Sow3 -/
def neg1 : List Int → Int
 | [] => 0
 | y :: r => (if y = -1 then 1 else 0) + neg1 r
theorem neg1_app (l m : List Int) : neg1 (l ++ m) = neg1 l + neg1 m := by
 induction l with
 | nil => simp [neg1]
 | cons y r ih => simp only [List.cons_append, neg1, ih]; omega
theorem neg1_snoc (l : List Int) (y : Int) : neg1 (l ++ [y]) = neg1 l + (if y = -1 then 1 else 0) := by rw [neg1_app]; simp [neg1]
theorem getD_bump {xs : List Int} {i : Int} (h : i.toNat < xs.length) : (bump xs i).getD i.toNat 0 = xs.getD i.toNat 0 + 1 := by
 unfold bump
 simp [List.getD, h]
theorem getD_bump_ne {xs : List Int} {i : Int} {k : Nat} (h : k ≠ i.toNat) : (bump xs i).getD k 0 = xs.getD k 0 := by
 unfold bump
 simp only [List.getD, List.getElem?_set]
 rw [if_neg (fun e => h e.symm)]
section
variable {R : Rl} {xs ys : List Int} {f t : Int}
def oth (pl : Int) : Nat := (1 - pl).toNat
theorem oth_ne (hR : R.Fit) : oth R.pl ≠ R.pl.toNat := by
 unfold oth
 rcases hR.pl with h | h <;> rw [h] <;> decide
theorem putY_own (hR : R.Fit) (h : ys.length = 2) (y : Int) : (putY R.pl ys y).getD R.pl.toNat 0 = ys.getD R.pl.toNat 0 + (if y = -1 then 1 else 0) := by
 have hp : R.pl.toNat < ys.length := by rcases hR.pl with e | e <;> rw [e, h] <;> decide
 unfold putY
 split
 ·exact getD_bump hp
 ·omega
theorem putY_oth (hR : R.Fit) (y : Int) : (putY R.pl ys y).getD (oth R.pl) 0 = ys.getD (oth R.pl) 0 := by
 unfold putY
 split
 ·exact getD_bump_ne (oth_ne hR)
 ·rfl
theorem putY_len (pl y : Int) : (putY pl ys y).length = ys.length := by
 unfold putY
 split
 ·exact bump_len _ _
 ·rfl
theorem lapY_len (k : Nat) : (lapY R f ys k).length = ys.length := by
 induction k with
 | zero => rfl
 | succ k ih => rw [show lapY R f ys (k + 1) = putY R.pl (lapY R f ys k) (R.at f k) from rfl, putY_len, ih]
theorem lapY_own (hR : R.Fit) (h : ys.length = 2) (k : Nat) : (lapY R f ys k).getD R.pl.toNat 0 = ys.getD R.pl.toNat 0 + neg1 (lapP R f k) := by
 induction k with
 | zero => simp [lapY, lapP, neg1]
 | succ k ih =>
  rw [show lapY R f ys (k + 1) = putY R.pl (lapY R f ys k) (R.at f k) from rfl, putY_own hR (by rw [lapY_len, h]), ih, show lapP R f (k + 1) = lapP R f k ++ [R.at f k] from rfl, neg1_snoc]
  omega
theorem lapY_oth (hR : R.Fit) (k : Nat) : (lapY R f ys k).getD (oth R.pl) 0 = ys.getD (oth R.pl) 0 := by
 induction k with
 | zero => rfl
 | succ k ih => rw [show lapY R f ys (k + 1) = putY R.pl (lapY R f ys k) (R.at f k) from rfl, putY_oth hR, ih]
theorem lapP_mem (hR : R.Fit) (hf0 : 0 ≤ f) (hf1 : f < 2 * R.p) (k : Nat) : ∀ y ∈ lapP R f k, -1 ≤ y ∧ y < 2 * R.p := by
 induction k with
 | zero => intro y hy; cases hy
 | succ k ih =>
  intro y hy
  rcases List.mem_append.1 hy with hy | hy
  ·exact ih y hy
  ·rw [List.mem_singleton] at hy
   rw [hy]
   exact plc_bd hR.lo hf0 hf1 k
theorem lapP_last (k : Nat) : (lapP R f (k + 1)).getLast? = some (R.at f k) := by simp [lapP]
theorem last_cell (hR : R.Fit) {k : Nat} (hb : Brd R (lapX R f xs k) (lapY R f ys k) t) (h0 : -1 ≤ R.at f k) (h1 : R.at f k < 2 * R.p) :
  (R.at f k = -1 → 1 ≤ (lapY R f ys (k + 1)).getD R.pl.toNat 0) ∧ (R.at f k ≠ -1 → 1 ≤ (lapX R f xs (k + 1)).getD (R.at f k).toNat 0) := by
 refine ⟨fun e => ?_, fun e => ?_⟩
 ·rw [show lapY R f ys (k + 1) = putY R.pl (lapY R f ys k) (R.at f k) from rfl, putY_own hR hb.ly, if_pos e]
  have := (hb.bd R.pl.toNat).2
  omega
 ·rw [show lapX R f xs (k + 1) = putX (lapX R f xs k) (R.at f k) from rfl]
  unfold putX
  rw [if_neg e, getD_bump (by have := hb.lx; omega)]
  have := (hb.bd (R.at f k).toNat).1
  omega
structure Fin (R : Rl) (t : Int) (y0 : List Int) (r : Res) : Prop where
 brd : Brd R r.xs r.ys t
 lo : -1 ≤ r.last
 hi : r.last < 2 * R.p
 st : r.last = -1 → R.st = true
 store : r.last = -1 → 1 ≤ r.ys.getD R.pl.toNat 0
 pit : r.last ≠ -1 → 1 ≤ r.xs.getD r.last.toNat 0
 lst : r.path.getLast? = some r.last
 mem : ∀ y ∈ r.path, -1 ≤ y ∧ y < 2 * R.p
 own : r.ys.getD R.pl.toNat 0 = y0.getD R.pl.toNat 0 + neg1 r.path
 oth : r.ys.getD (oth R.pl) 0 = y0.getD (Proofs.YtgbaneildbdgdaaGreat.oth R.pl) 0
 l1 : 1 ≤ r.laps
 l2 : r.laps ≤ 100
 len : r.path.length ≤ 96 * r.laps
structure Way (R : Rl) (y0 ys : List Int) (j : Nat) (path : List Int) : Prop where
 mem : ∀ y ∈ path, -1 ≤ y ∧ y < 2 * R.p
 own : ys.getD R.pl.toNat 0 = y0.getD R.pl.toNat 0 + neg1 path
 oth : ys.getD (oth R.pl) 0 = y0.getD (Proofs.YtgbaneildbdgdaaGreat.oth R.pl) 0
 len : path.length ≤ 96 * j
theorem Way.next {y0 path : List Int} {j : Nat} (w : Way R y0 ys j path) (h : Lap R xs ys f t) (hR : R.Fit) : Way R y0 (cy R ys f (cnt xs f)) (j + 1) (path ++ lapP R f (cnt xs f)) :=
  ⟨fun y hy => by
    rcases List.mem_append.1 hy with hy | hy
    · exact w.mem y hy
    · exact lapP_mem hR h.f0 h.f1 _ y hy,
   by unfold cy; rw [lapY_own hR h.brd.ly, neg1_app, w.own]; omega,
   by unfold cy; rw [lapY_oth hR, w.oth],
   by rw [List.length_append, lapP_len]; have := w.len; have := h.num_le; omega⟩
theorem lap_fin {y0 path : List Int} {j : Nat} (w : Way R y0 ys j path) (h : Lap R xs ys f t) (hR : R.Fit) (hj : j < 100) :
  Fin R t y0 ⟨cx R xs f (cnt xs f), cy R ys f (cnt xs f), lst R xs f, j + 1, path ++ lapP R f (cnt xs f)⟩ := by
 have wn := w.next h hR
 have hn := h.num_pos
 have hb := h.at_bd hR (cnt xs f - 1)
 have hc := last_cell hR (h.mid hR (cnt xs f - 1)) hb.1 hb.2
 rw [show cnt xs f - 1 + 1 = cnt xs f by omega] at hc
 exact ⟨h.done hR, hb.1, hb.2, fun e => plc_st hR.lo h.f0 h.f1 _ e, hc.1, hc.2, by
  rw [List.getLast?_append, show cnt xs f = (cnt xs f - 1) + 1 by omega, lapP_last]
  rfl, wn.mem, wn.own, wn.oth, by simp, by simp; omega, wn.len⟩
theorem mvF_fin (hR : R.Fit) {y0 : List Int} : ∀ {m : Nat} {xs ys : List Int} {f : Int} {j : Nat} {path : List Int} {r : Res}, Lap R xs ys f t → Way R y0 ys j path → j + m ≤ 100 → mvF R m xs ys f j path = some r → Fin R t y0 r
 | 0, _, _, _, _, _, _, _, _, _, h => by cases h
 | m + 1, xs, ys, f, j, path, r, hl, hw, hj, h => by
  cases ha : agn R xs f
  ·rw [mvF_no ha] at h
   cases h
   exact lap_fin hw hl hR (by omega)
  ·rw [mvF_yes ha] at h
   exact mvF_fin hR (hl.next hR ha) (hw.next hl hR) (by omega) h
end
theorem way_start (R : Rl) (ys : List Int) : Way R ys ys 0 [] := ⟨(fun y hy => by cases hy), by simp [neg1], rfl, by simp⟩
/- Sow5S -/
def SwQ (n1 : Nat) (MV : Option Res) (w : World) (e : Ending) (w' : World) : Prop :=
 match MV with
 | none => e = .returned (.tuple #[.agg #[.slice none 0 0, .slice none 0 0, .int .i64 0, .int .i64 0], .slice none 0 0, .bool false]) ∧ Below w.heap.size w w'
 | some m => ∃ b1 c1 b2 c2 v, e = .returned (.tuple #[.agg #[.slice (some ⟨b1, 0, none⟩) n1 c1, .slice (some ⟨b2, 0, none⟩) 2 c2, .int .i64 m.last, .int .i64 m.laps], v, .bool true]) ∧
   PosO w' w.heap.size (some ⟨b1, 0, none⟩) (some ⟨b2, 0, none⟩) b1 b2 n1 2 m.xs m.ys ∧ b1 < w'.heap.size ∧ b2 < w'.heap.size ∧ n1 ≤ c1 ∧ 2 ≤ c2 ∧ w'.ownsRow w.heap.size 2 1 v m.path.length (nvs m.path) ∧ Below w.heap.size w w'
structure SowF (w : World) (p s c l : Int) (st sk re fe ag : Bool) (p1 p2 : Option Addr) (pn1 pc1 pn2 pc2 : Nat) (pp : Int) (rb pb s0 b5 c5 b6 c6 : Nat) (xs ys : List Int) (u : World) : Prop where
 po : PoAt u pb p1 p2 pn1 pc1 pn2 pc2 pp
 ru : RuAt u rb p s c l st sk re fe ag
 so : SoS u w.heap.size s0 b5 c5 b6 c6 pn1 0 0 xs ys
 l5 : b5 < u.heap.size
 l6 : b6 < u.heap.size
 k5 : pn1 ≤ c5
 k6 : 2 ≤ c6
 ms : w.heap.size ≤ s0
 on : Below w.heap.size w u
def NF (u : World) (z : Nat) : Prop := z < u.heap.size ∧ ∀ o, u.frozen? ⟨z, o, none⟩ = false
theorem NF.below {u v : World} {z : Nat} (h : NF u z) (k : Below u.heap.size u v) : NF v z := ⟨Nat.lt_of_lt_of_le h.1 k.size, fun o => (k.frozen (p := ⟨z, o, none⟩) h.1).trans (h.2 o)⟩
theorem NF.drew {u : World} {z : Nat} (h : NF u z) : NF u.drew z := h
theorem nf_new (u : World) (xs : Array Value) (T : TypeId) : NF (u.alloc (.cells xs T)) u.heap.size := ⟨by simp, fun o => by go_simp⟩
theorem sow_fin {w u : World} (p s c l : Int) (st sk re fe ag : Bool) (p1 p2 : Option Addr) (pn1 pc1 pn2 pc2 : Nat) (pp : Int) {rb pb s0 b5 c5 b6 c6 B1 B2 : Nat} {xs ys : List Int} (hp : PoAt u pb p1 p2 pn1 pc1 pn2 pc2 pp) (hr : RuAt u rb p s c l st sk re fe ag) (ho : OnW w u) (hY : Z4 u s0) (hf : ∀ o, u.frozen? ⟨s0, o, none⟩ = false)
  (o1 : OutN u B1 (some ⟨b5, 0, none⟩) b5 xs) (o2 : OutN u B2 (some ⟨b6, 0, none⟩) b6 ys) (l1 : xs.length = pn1) (l2 : ys.length = 2) (ne : b5 ≠ b6) (n5 : b5 ≠ s0) (n6 : b6 ≠ s0) (l5 : b5 < u.heap.size) (l6 : b6 < u.heap.size) (mp : pb ≠ s0) (mr : rb ≠ s0) (ms : w.heap.size ≤ s0) (hB1 : w.heap.size ≤ B1) (hB2 : w.heap.size ≤ B2) (k5 : pn1 ≤ c5) (k6 : 2 ≤ c6) :
  SowF w p s c l st sk re fe ag p1 p2 pn1 pc1 pn2 pc2 pp rb pb s0 b5 c5 b6 c6 xs ys ((((u.setCell ⟨s0, 0, none⟩ (.slice (some ⟨b5, 0, none⟩) pn1 c5)).setCell ⟨s0, 1, none⟩ (.slice (some ⟨b6, 0, none⟩) 2 c6)).setCell ⟨s0, 2, none⟩ (.int .i64 0)).setCell ⟨s0, 3, none⟩ (.int .i64 0)) := by
 have hb := but4 s0 u (.slice (some ⟨b5, 0, none⟩) pn1 c5) (.slice (some ⟨b6, 0, none⟩) 2 c6) (.int .i64 0) (.int .i64 0)
 obtain ⟨yl, y0, y1, y2, y3, f0, f1, f2, f3⟩ := hY
 exact ⟨hp.but hb mp, hr.but hb mr, ⟨⟨by simpa using yl, by go_simp, by go_simp, by go_simp, by go_simp⟩, fun o => by have := hf o; go_simp, (o1.but hb n5).lower hB1, (o2.but hb n6).lower hB2, l1, l2, fun e => n5 e.symm, fun e => n6 e.symm, ne⟩, by simpa using l5, by simpa using l6, k5, k6, ms, ho.set4 (by omega) _ _ _ _⟩
theorem sow_fin2 {w u : World} (p s c l : Int) (st sk re fe ag : Bool) (p1 p2 : Option Addr) (pn1 pc1 pn2 pc2 : Nat) (pp : Int) {rb pb b5 c5 b6 c6 B1 B2 : Nat} {xs ys : List Int} (T : TypeId) (hp : PoAt u pb p1 p2 pn1 pc1 pn2 pc2 pp) (hr : RuAt u rb p s c l st sk re fe ag) (ho : OnW w u)
  (o1 : OutN u B1 (some ⟨b5, 0, none⟩) b5 xs) (o2 : OutN u B2 (some ⟨b6, 0, none⟩) b6 ys) (l1 : xs.length = pn1) (l2 : ys.length = 2) (ne : b5 ≠ b6) (l5 : b5 < u.heap.size) (l6 : b6 < u.heap.size) (hB1 : w.heap.size ≤ B1) (hB2 : w.heap.size ≤ B2) (k5 : pn1 ≤ c5) (k6 : 2 ≤ c6) :
  SowF w p s c l st sk re fe ag p1 p2 pn1 pc1 pn2 pc2 pp rb pb u.heap.size b5 c5 b6 c6 xs ys (u.alloc (.cells #[.slice (some ⟨b5, 0, none⟩) pn1 c5, .slice (some ⟨b6, 0, none⟩) 2 c6, .int .i64 0, .int .i64 0] T)) :=
 ⟨hp.below (al1 _ _), hr.below (al1 _ _), ⟨so_new _ _ _ _ _ _ _ _ u T, fun o => by go_simp, (o1.below (al1 _ _)).lower hB1, (o2.below (al1 _ _)).lower hB2, l1, l2, by omega, by omega, ne⟩, by simp; omega, by simp; omega, k5, k6, Below.size ho, OnW.below ho (al1 _ _)⟩
structure SwJ (u2 : World) (R : Rl) (p s c l : Int) (st sk re fe ag : Bool) (t : Int) (MV : Option Res) (rb s0 b5 c5 b6 c6 n1 n0 : Nat) (j : Nat) (xs ys : List Int) (f : Int) (pth : List Int) (pv : Value) (wr : World) : Prop where
 lap : Lap R xs ys f t
 mv : mvF R (100 - j) xs ys f j pth = MV
 be : Below u2.heap.size u2 wr
 ru : RuAt wr rb p s c l st sk re fe ag
 so : SoS wr u2.heap.size s0 b5 c5 b6 c6 n1 (lst R xs f) ((j : Int) + 1) (cx R xs f (cnt xs f)) (cy R ys f (cnt xs f))
 row : wr.ownsRow n0 2 1 pv (pth.length + cnt xs f) (nvs (pth ++ lapP R f (cnt xs f)))
 pl : pth.length ≤ 96 * j
 sz : n0 ≤ wr.heap.size
theorem sow_yes {w u2 wr : World} {R : Rl} (p s c l : Int) (st sk re fe ag : Bool) {t : Int} {MV : Option Res} {rb s0 b5 c5 b6 c6 n1 n0 j : Nat} {xs ys : List Int} {f : Int} {pth : List Int} {pv : Value} (hw : Below w.heap.size w u2) (hwu : w.heap.size < u2.heap.size) (hn0 : u2.heap.size ≤ n0) (h : SwJ u2 R p s c l st sk re fe ag t MV rb s0 b5 c5 b6 c6 n1 n0 j xs ys f pth pv wr) (l5 : b5 < n0) (l6 : b6 < n0) (k5 : n1 ≤ c5) (k6 : 2 ≤ c6) (m5 : u2.heap.size ≤ b5) (m6 : u2.heap.size ≤ b6) :
  SwQ n1 (some ⟨cx R xs f (cnt xs f), cy R ys f (cnt xs f), lst R xs f, j + 1, pth ++ lapP R f (cnt xs f)⟩) w (.returned (.tuple #[.agg #[.slice (some ⟨b5, 0, none⟩) n1 c5, .slice (some ⟨b6, 0, none⟩) 2 c6, .int .i64 (lst R xs f), .int .i64 ((j : Int) + 1)], pv, .bool true]))
   ((((wr.setCell ⟨w.heap.size, 0, none⟩ (.slice (some ⟨b5, 0, none⟩) n1 c5)).setCell ⟨w.heap.size, 1, none⟩ (.slice (some ⟨b6, 0, none⟩) 2 c6)).setCell ⟨w.heap.size, 2, none⟩ (.int .i64 (lst R xs f))).setCell ⟨w.heap.size, 3, none⟩ (.int .i64 ((j : Int) + 1))) := by
 have hb := but4 w.heap.size wr (.slice (some ⟨b5, 0, none⟩) n1 c5) (.slice (some ⟨b6, 0, none⟩) 2 c6) (.int .i64 (lst R xs f)) (.int .i64 ((j : Int) + 1))
 have hsz := h.sz
 have hlen : (pth ++ lapP R f (cnt xs f)).length = pth.length + cnt xs f := by rw [List.length_append, lapP_len]
 have hbe : OnW w wr := Below.trans hw (h.be.mono (Nat.le_of_lt hwu))
 refine ⟨b5, c5, b6, c6, pv, rfl, ⟨(h.so.o1.but hb (by omega)).lower (by omega), (h.so.o2.but hb (by omega)).lower (by omega), h.so.d3, h.so.l1, h.so.l2⟩, by simp; omega, by simp; omega, k5, k6, ?_, hbe.set4 (Nat.le_refl _) _ _ _ _⟩
 show World.ownsRow _ _ _ _ pv (pth ++ lapP R f (cnt xs f)).length (nvs (pth ++ lapP R f (cnt xs f)))
 rw [hlen]
 exact own_lower (own_but h.row hb (by omega)) (by omega)
theorem specSow0 (p s c l : Int) (st sk re fe ag : Bool) (p1 p2 : Option Addr) (pn1 pc1 pc2 : Nat) (xs ys : List Int) (F rb pb : Nat) (w : World) (t : Int) (hr : RuAt w rb p s c l st sk re fe ag) (hq : PoAt w pb p1 p2 pn1 pc1 2 pc2 0) (h : PosR w p1 p2 pn1 2 xs ys) (hp : 2 ≤ p) (hp8 : p ≤ 8)
  (hL : Lap ⟨p, 0, st, sk, re⟩ xs ys F t) (MV : Option Res) (hMV : mvF ⟨p, 0, st, sk, re⟩ 100 xs ys F 0 [] = MV) :
  Calls Tryz.prog 155 #[.pointer (some ⟨rb, 0, none⟩), .pointer (some ⟨pb, 0, none⟩), .int .i64 F] w (SwQ pn1 MV w) := by
 have H := Lib.hid h
 have HL := Lib.hid hL
 have HMV := Lib.hid hMV
 have HN1 : Hid (xs ≠ []) := Lib.hid (by intro e; have := hL.brd.lx; subst e; simp at this; omega)
 have HN2 : Hid (ys ≠ []) := Lib.hid (by intro e; have := hL.brd.ly; subst e; simp at this)
 have hle1 : pn1 ≤ 1000000000000 := by have := h.r1.1; rwa [h.l1] at this
 have hle2 : 2 ≤ 1000000000000 := by omega
 have HP := Lib.hid (hq.below (al1 _ (.cells #[.slice none 0 0, .slice none 0 0, .int .i64 0, .int .i64 0] 121)))
 have HU := Lib.hid (hr.below (al1 _ (.cells #[.slice none 0 0, .slice none 0 0, .int .i64 0, .int .i64 0] 121)))
 have HW := Lib.hid (al1 w (.cells #[.slice none 0 0, .slice none 0 0, .int .i64 0, .int .i64 0] 121))
 have HZ := Lib.hid (z4_new w 121)
 have HNF := Lib.hid (nf_new w #[.slice none 0 0, .slice none 0 0, .int .i64 0, .int .i64 0] 121)
 have hrb : rb < w.heap.size := hr.1
 have hpb : pb < w.heap.size := hq.1
 clear h hL hMV hr hq
 go_enter Tryz.func155, Tryz.ntmps155
 go_upto_region 1 with fail
 generalize w.alloc (.cells #[.slice none 0 0, .slice none 0 0, .int .i64 0, .int .i64 0] 121) = u2 at *
 have H := Lib.hid (H.out.below HW.out)
 have hwu : w.heap.size < u2.heap.size := HZ.out.lt
 have HB := Lib.hid (show OnW u2 u2 from Below.refl _ _)
 have HT : Hid (∀ u : World, PoAt u pb p1 p2 pn1 pc1 2 pc2 0 → OnW u2 u → (pb < u.heap.size ∧ u.cell? ⟨pb, 0, none⟩ = some (.slice p1 pn1 pc1) ∧ u.cell? ⟨pb, 1, none⟩ = some (.slice p2 2 pc2) ∧ u.cell? ⟨pb, 2, none⟩ = some (.int .i64 0)) ∧ Below u2.heap.size u2 u) := Lib.hid (fun u h k => ⟨h, k⟩)
 go_cut [9] (fun s9 wx => ∃ s0 b5 c5 b6 c6 : Nat, s9 = .pointer (some ⟨s0, 0, none⟩) ∧ SowF u2 p s c l st sk re fe ag p1 p2 pn1 pc1 2 pc2 0 rb pb s0 b5 c5 b6 c6 xs ys wx)
 case first =>
  go_region_held3 (fun u => (pb < u.heap.size ∧ u.cell? ⟨pb, 0, none⟩ = some (.slice p1 pn1 pc1) ∧ u.cell? ⟨pb, 1, none⟩ = some (.slice p2 2 pc2) ∧ u.cell? ⟨pb, 2, none⟩ = some (.int .i64 0)) ∧ Below u2.heap.size u2 u) (first | with_reducible exact HT.out _ HP.out HB.out | with_reducible exact HT.out _ HP.out.drew HB.out.drew | with_reducible exact HT.out _ (HP.out.below (al1 _ _)) (HB.out.below (al1 _ _)) | with_reducible exact HT.out _ (HP.out.drew.below (al1 _ _)) (HB.out.drew.below (al1 _ _)) | with_reducible exact HT.out _ (HP.out.below (al1 _ _)).drew (HB.out.below (al1 _ _)).drew | with_reducible exact HT.out _ (HP.out.set4 (by omega) _ _ _ _) (HB.out.set4 (by omega) _ _ _ _) | with_reducible exact HT.out _ ((HP.out.below (al1 _ _)).set4 (by omega) _ _ _ _) ((HB.out.below (al1 _ _)).set4 (by omega) _ _ _ _))
   (first
   | (go_at_call 69; (with_reducible refine (l00Own_any p1 pc1 pn1 xs _ H.out.l1 ?_ HN1.out).mono ?_); (first | with_reducible exact H.out.r1.below (HB.out).bel | with_reducible exact H.out.r1.below (HB.out.drew).bel | with_reducible exact H.out.r1.below (HB.out.below (al1 _ _)).bel | with_reducible exact H.out.r1.below (HB.out.drew.below (al1 _ _)).bel | with_reducible exact H.out.r1.below ((HB.out.below (al1 _ _)).drew).bel); rintro e w5 ⟨v1, rfl, hown, hb5⟩; (obtain ⟨c5, b5, rfl, o5, hlt5, hc5⟩ := outN_own hown H.out.l1 hle1 HN1.out); have O1 := Lib.hid o5; have nb1 := o5.new; (first | have HY := Lib.hid ((z4_new u2 121).drew.below hb5) | have HY := Lib.hid ((z4_new u2.drew 121).below hb5) | have HY := Lib.hid ((z4_new u2 121).below hb5) | skip); (first | have HG := Lib.hid ((nf_new u2 _ 121).drew.below hb5) | have HG := Lib.hid ((nf_new u2.drew _ 121).below hb5) | have HG := Lib.hid ((nf_new u2 _ 121).below hb5) | skip); (first | have HP := Lib.hid (HP.out.below hb5) | have HP := Lib.hid (HP.out.drew.below hb5) | have HP := Lib.hid ((HP.out.below (al1 _ _)).below hb5) | have HP := Lib.hid ((HP.out.below (al1 _ _)).drew.below hb5)); (first | have HU := Lib.hid (HU.out.below hb5) | have HU := Lib.hid (HU.out.drew.below hb5) | have HU := Lib.hid ((HU.out.below (al1 _ _)).below hb5) | have HU := Lib.hid ((HU.out.below (al1 _ _)).drew.below hb5)); (first | have HB := Lib.hid (HB.out.below hb5) | have HB := Lib.hid (HB.out.drew.below hb5) | have HB := Lib.hid ((HB.out.below (al1 _ _)).below hb5) | have HB := Lib.hid ((HB.out.below (al1 _ _)).drew.below hb5)); have nz5 := HP.out.1; have nb5 := HB.out.size; clear hown hb5 o5)
   | (go_at_call 69; (with_reducible refine (l00Own_any p2 pc2 2 ys _ H.out.l2 ?_ HN2.out).mono ?_); (first | with_reducible exact H.out.r2.below (HB.out).bel | with_reducible exact H.out.r2.below (HB.out.drew).bel | with_reducible exact H.out.r2.below (HB.out.below (al1 _ _)).bel | with_reducible exact H.out.r2.below (HB.out.drew.below (al1 _ _)).bel | with_reducible exact H.out.r2.below ((HB.out.below (al1 _ _)).drew).bel); rintro e w6 ⟨v2, rfl, hown, hb6⟩; (obtain ⟨c6, b6, rfl, o6, hlt6, hc6⟩ := outN_own hown H.out.l2 hle2 HN2.out); have O2 := Lib.hid o6; have nb2 := o6.new; (first | have HY := Lib.hid (HY.out.below hb6) | have HY := Lib.hid (HY.out.drew.below hb6) | have HY := Lib.hid ((z4_new w5 121).below hb6) | have HY := Lib.hid ((z4_new w5 121).drew.below hb6) | have HY := Lib.hid ((z4_new w5.drew 121).below hb6) | skip); (first | have HG := Lib.hid (HG.out.below hb6) | have HG := Lib.hid (HG.out.drew.below hb6) | have HG := Lib.hid ((nf_new w5 _ 121).below hb6) | have HG := Lib.hid ((nf_new w5 _ 121).drew.below hb6) | have HG := Lib.hid ((nf_new w5.drew _ 121).below hb6) | skip); (try obtain ⟨yz, y0, y1, y2, y3, k0, k1, k2, k3⟩ := HY.out); (first | have HP := Lib.hid (HP.out.below hb6) | have HP := Lib.hid (HP.out.drew.below hb6) | have HP := Lib.hid ((HP.out.below (al1 _ _)).below hb6) | have HP := Lib.hid ((HP.out.below (al1 _ _)).drew.below hb6)); (first | have HU := Lib.hid (HU.out.below hb6) | have HU := Lib.hid (HU.out.drew.below hb6) | have HU := Lib.hid ((HU.out.below (al1 _ _)).below hb6) | have HU := Lib.hid ((HU.out.below (al1 _ _)).drew.below hb6)); (first | have HB := Lib.hid (HB.out.below hb6) | have HB := Lib.hid (HB.out.drew.below hb6) | have HB := Lib.hid ((HB.out.below (al1 _ _)).below hb6) | have HB := Lib.hid ((HB.out.below (al1 _ _)).drew.below hb6)); (first | have O1 := Lib.hid (O1.out.below hb6) | have O1 := Lib.hid (O1.out.drew.below hb6) | have O1 := Lib.hid ((O1.out.below (al1 _ _)).below hb6) | have O1 := Lib.hid ((O1.out.below (al1 _ _)).drew.below hb6)); have nz6 := HP.out.1; have nb6 := HB.out.size; clear hown hb6 o6))
  all_goals (try simp at nb1)
  all_goals (try simp at nb2)
  all_goals go_wp2_with fail
  all_goals go_meet
  all_goals have hl5 := (O1.out.free HN1.out).1
  all_goals have hb5' := HB.out.size
  all_goals first
   | exact ⟨_, _, _, _, _, rfl, sow_fin2 p s c l st sk re fe ag p1 p2 pn1 pc1 2 pc2 0 121 HP.out HU.out HB.out O1.out O2.out H.out.l1 H.out.l2 (by omega) hl5 hlt6 (by first | omega | (simp; done) | (simp; omega)) (by first | omega | (simp; done) | (simp; omega)) hc5 hc6⟩
   | exact ⟨_, _, _, _, _, rfl, sow_fin p s c l st sk re fe ag p1 p2 pn1 pc1 2 pc2 0 HP.out HU.out HB.out HY.out HG.out.2 O1.out O2.out H.out.l1 H.out.l2 (by omega) (by omega) (by omega) hl5 hlt6 (by omega) (by omega) (by omega) (by first | omega | (simp; done) | (simp; omega)) (by first | omega | (simp; done) | (simp; omega)) hc5 hc6⟩
 case rest =>
  obtain ⟨s0, b5, c5, b6, c6, rfl, hF⟩ := hcut
  have HF := Lib.hid hF
  obtain ⟨_, t0, t1, t2⟩ := hF.po
  clear hF HU HB HT
  go_wp2_with fail
  have HFb := Lib.hid (show RuAt _ rb p s c l st sk re fe ag ∧ SoS _ u2.heap.size s0 b5 c5 b6 c6 pn1 0 0 xs ys ∧ Below u2.heap.size u2 _ from ⟨HF.out.ru.below (al1 wc (.cells #[] 2)), HF.out.so.below (al1 wc (.cells #[] 2)), OnW.below (show OnW u2 wc from HF.out.on) (al1 wc (.cells #[] 2))⟩)
  have hl5 := HF.out.l5
  have hl6 := HF.out.l6
  have hms := HF.out.ms
  have hs0 := HF.out.so.so.1
  have hn5 := HF.out.so.o1.new
  have hn6 := HF.out.so.o2.new
  have hwc : u2.heap.size ≤ wc.heap.size := Below.size HF.out.on
  have hrow0 := World.ownsRow_made (e := 2) (size := 1) wc #[] 0 (Nat.le_refl _) (by decide) rfl
  have HLap : Hid (Calls Tryz.prog 172 #[.pointer (some ⟨rb, 0, none⟩), .pointer (some ⟨s0, 0, none⟩), .int .i64 0, .int .i64 (F : Int), .slice (some ⟨wc.heap.size, 0, none⟩) 0 0] (wc.alloc (.cells #[] 2)) (LapD u2 (wc.alloc (.cells #[] 2)) ⟨p, 0, st, sk, re⟩ (fun u => RuAt u rb p s c l st sk re fe ag) s0 b5 c5 b6 c6 pn1 wc.heap.size 0 F xs ys [])) := Lib.hid
   (specLap0 u2 (wc.alloc (.cells #[] 2)) ⟨p, 0, st, sk, re⟩ p s c l st sk re fe ag rfl t rb s0 b5 c5 b6 c6 pn1 wc.heap.size 0 0 F xs ys [] _ hp hp8 HL.out HFb.out.2.2 HFb.out.1 HFb.out.2.1 hrow0 (by simp) hwc (by omega) hs0 hl5 hl6 (by omega) (by omega) (by omega) (by omega) (by omega) (by simp) hms)
  refine HLap.out.mono ?_
  rintro e w3 ⟨v3, rfl, hb3, hr3, hs3, hrow3, hsz3⟩
  have HJ : Hid (SwJ u2 ⟨p, 0, st, sk, re⟩ p s c l st sk re fe ag t MV rb s0 b5 c5 b6 c6 pn1 wc.heap.size 0 xs ys F [] v3 w3) := Lib.hid ⟨HL.out, HMV.out, hb3, hr3, hs3, hrow3, by simp, Nat.le_trans (by simp) hsz3⟩
  clear hb3 hr3 hs3 hrow3 hsz3 hrow0 t0 t1 t2 HLap HFb
  go_wp2_with fail
  have hR : Rl.Fit ⟨p, 0, st, sk, re⟩ := ⟨hp, hp8, by simp⟩
  have HRf := Lib.hid hR
  have hk5 := HF.out.k5
  have hk6 := HF.out.k6
  clear hR HMV HL
  go_loopg [10] 100 (fun q pv wr => ∃ (j : Nat) (xs' ys' : List Int) (f' : Int) (pth : List Int), q = 100 - j ∧ j < 100 ∧ SwJ u2 ⟨p, 0, st, sk, re⟩ p s c l st sk re fe ag t MV rb s0 b5 c5 b6 c6 pn1 wc.heap.size j xs' ys' f' pth pv wr)
  case atStart => exact ⟨0, xs, ys, F, [], rfl, by omega, HJ.out⟩
  case round =>
   obtain ⟨j, xs', ys', f', pth, rfl, hj, hJ⟩ := hrel
   have HJ := Lib.hid hJ
   have hlb := hJ.lap.at_bd HRf.out (cnt xs' f' - 1)
   have hl1 := hJ.so.l1
   obtain ⟨_, r0, r1, r2, r3, r4, r5, r6, r7, r8⟩ := hJ.ru
   obtain ⟨_, k0, k1, k2, k3⟩ := hJ.so.so
   have hnum := hJ.lap.brd.lx
   clear hJ
   rcases re with _ | _
   ·have ha : agn ⟨p, 0, st, sk, false⟩ xs' f' = false := rfl
    clear hlb hnum hl1
    have hmv : MV = some ⟨cx ⟨p, 0, st, sk, false⟩ xs' f' (cnt xs' f'), cy ⟨p, 0, st, sk, false⟩ ys' f' (cnt xs' f'), lst ⟨p, 0, st, sk, false⟩ xs' f', j + 1, pth ++ lapP ⟨p, 0, st, sk, false⟩ f' (cnt xs' f')⟩ := by rw [← HJ.out.mv, show 100 - j = (99 - j) + 1 by omega, mvF_no ha]
    have Hmv := Lib.hid hmv
    clear hmv ha
    obtain ⟨zl, z0, z1, z2, z3, y0, y1, y2, y3⟩ := HZ.out.below HJ.out.be
    go_wp2_with fail
    rw [Hmv.out]
    refine bodyPost_ret (v := .tuple #[.agg #[.slice (some ⟨b5, 0, none⟩) pn1 c5, .slice (some ⟨b6, 0, none⟩) 2 c6, .int .i64 (lst ⟨p, 0, st, sk, false⟩ xs' f'), .int .i64 ((j : Int) + 1)], u10, .bool true]) (by simp [results, Tryz.results155, go_sem, z0, z1, z2, z3]) rfl (sow_yes p s c l st sk false fe ag HW.out hwu hwc HJ.out hl5 hl6 hk5 hk6 hn5 hn6)
   ·have hlst : lst ⟨p, 0, st, sk, true⟩ xs' f' = Rl.at ⟨p, 0, st, sk, true⟩ f' (cnt xs' f' - 1) := rfl
    rw [← hlst] at hlb
    by_cases hneg : lst ⟨p, 0, st, sk, true⟩ xs' f' = -1
    ·have ha : agn ⟨p, 0, st, sk, true⟩ xs' f' = false := by unfold agn; rw [hneg]; simp
     have tn : ¬ 0 ≤ lst ⟨p, 0, st, sk, true⟩ xs' f' := by omega
     clear hlb hnum hl1 hlst hneg
     have hmv : MV = some ⟨cx ⟨p, 0, st, sk, true⟩ xs' f' (cnt xs' f'), cy ⟨p, 0, st, sk, true⟩ ys' f' (cnt xs' f'), lst ⟨p, 0, st, sk, true⟩ xs' f', j + 1, pth ++ lapP ⟨p, 0, st, sk, true⟩ f' (cnt xs' f')⟩ := by rw [← HJ.out.mv, show 100 - j = (99 - j) + 1 by omega, mvF_no ha]
     have Hmv := Lib.hid hmv
     clear hmv ha
     obtain ⟨zl, z0, z1, z2, z3, y0, y1, y2, y3⟩ := HZ.out.below HJ.out.be
     go_wp2_with fail
     rw [Hmv.out]
     refine bodyPost_ret (v := .tuple #[.agg #[.slice (some ⟨b5, 0, none⟩) pn1 c5, .slice (some ⟨b6, 0, none⟩) 2 c6, .int .i64 (lst ⟨p, 0, st, sk, true⟩ xs' f'), .int .i64 ((j : Int) + 1)], u10, .bool true]) (by simp [results, Tryz.results155, go_sem, z0, z1, z2, z3]) rfl (sow_yes p s c l st sk true fe ag HW.out hwu hwc HJ.out hl5 hl6 hk5 hk6 hn5 hn6)
    ·obtain ⟨K, hK⟩ : ∃ K : Nat, lst ⟨p, 0, st, sk, true⟩ xs' f' = (K : Int) := ⟨(lst ⟨p, 0, st, sk, true⟩ xs' f').toNat, by omega⟩
     have hdone := (HJ.out.lap.done HRf.out).lx
     have hKn : K < pn1 := by
      have h1 := hlb.2
      have h2 := HJ.out.so.l1
      rw [hK] at h1
      omega
     obtain ⟨y1, y2, y3⟩ := HJ.out.so.x hKn
     have hag : agn ⟨p, 0, st, sk, true⟩ xs' f' = decide (1 < (cx ⟨p, 0, st, sk, true⟩ xs' f' (cnt xs' f')).getD K 0) := by
      unfold agn
      rw [hK, Int.toNat_natCast]
      have e : decide ((K : Int) ≠ -1) = true := by first | (simp; done) | (simp; omega)
      rw [e]; rfl
     have hK0 : (0 : Int) ≤ (K : Int) := by omega
     have hK1 : (K : Int) < (pn1 : Int) := by omega
     rw [hK] at k2
     have HK := Lib.hid hK
     generalize (cx ⟨p, 0, st, sk, true⟩ xs' f' (cnt xs' f')).getD K 0 = v at *
     clear hdone hlb hnum hl1 hlst hneg
     by_cases hv : 1 < v
     ·have ha : agn ⟨p, 0, st, sk, true⟩ xs' f' = true := by rw [hag]; simpa using hv
      clear hag
      by_cases h99 : j = 99
      ·have hmv : MV = none := by rw [← HJ.out.mv, show 100 - j = 0 + 1 by omega, mvF_yes ha]; rfl
       have Hmv := Lib.hid hmv
       have h100 : (100 : Int) ≤ (j : Int) + 1 := by omega
       clear hmv ha hK h99
       obtain ⟨zl, z0, z1, z2, z3, q0, q1, q2, q3⟩ := HZ.out.below HJ.out.be
       go_wp2_with fail
       rw [Hmv.out]
       refine bodyPost_ret (v := .tuple #[.agg #[.slice none 0 0, .slice none 0 0, .int .i64 0, .int .i64 0], .slice none 0 0, .bool false]) (by simp [results, Tryz.results155, go_sem, z0, z1, z2, z3]) rfl ⟨rfl, OnW.set4 (show OnW w wr from Below.trans HW.out (HJ.out.be.mono (Nat.le_of_lt hwu))) (Nat.le_refl _) _ _ _ _⟩
      ·have h100 : ¬ (100 : Int) ≤ (j : Int) + 1 := by omega
       obtain ⟨_, t0, t1, t2⟩ := HP.out.below HJ.out.be
       have hlen : (pth ++ lapP ⟨p, 0, st, sk, true⟩ f' (cnt xs' f')).length = pth.length + cnt xs' f' := by rw [List.length_append, lapP_len]
       have hcn := HJ.out.lap.num_le
       have hpl := HJ.out.pl
       have hnx := HJ.out.lap.next HRf.out ha
       have hrow : wr.ownsRow wc.heap.size 2 1 u10 (pth ++ lapP ⟨p, 0, st, sk, true⟩ f' (cnt xs' f')).length (nvs (pth ++ lapP ⟨p, 0, st, sk, true⟩ f' (cnt xs' f'))) := by rw [hlen]; exact HJ.out.row
       have HN : Hid (Calls Tryz.prog 172 #[.pointer (some ⟨rb, 0, none⟩), .pointer (some ⟨s0, 0, none⟩), .int .i64 0, .int .i64 (K : Int), u10] wr.drew (LapD u2 wr.drew ⟨p, 0, st, sk, true⟩ (fun u => RuAt u rb p s c l st sk true fe ag) s0 b5 c5 b6 c6 pn1 wc.heap.size ((j : Int) + 1) (lst ⟨p, 0, st, sk, true⟩ xs' f') (cx ⟨p, 0, st, sk, true⟩ xs' f' (cnt xs' f')) (cy ⟨p, 0, st, sk, true⟩ ys' f' (cnt xs' f')) (pth ++ lapP ⟨p, 0, st, sk, true⟩ f' (cnt xs' f')))) := Lib.hid (by
        rw [← hK]
        exact specLap0 u2 wr.drew ⟨p, 0, st, sk, true⟩ p s c l st sk true fe ag rfl t rb s0 b5 c5 b6 c6 pn1 wc.heap.size (lst ⟨p, 0, st, sk, true⟩ xs' f') ((j : Int) + 1) (lst ⟨p, 0, st, sk, true⟩ xs' f') (cx ⟨p, 0, st, sk, true⟩ xs' f' (cnt xs' f')) (cy ⟨p, 0, st, sk, true⟩ ys' f' (cnt xs' f')) (pth ++ lapP ⟨p, 0, st, sk, true⟩ f' (cnt xs' f')) u10 hp hp8 hnx HJ.out.be.drew (HJ.out.ru.below (Below.refl _ _).drew) (HJ.out.so.below (Below.refl _ _).drew) (own_keep hrow (Below.refl _ _).drew) HJ.out.sz hwc (by omega) hs0 hl5 hl6 (by omega) (by omega) (by omega) (by omega) (by omega) (by omega) hms)
       have Hnx := Lib.hid hnx
       have hmv := HJ.out.mv
       rw [show 100 - j = (100 - (j + 1)) + 1 by omega, mvF_yes ha] at hmv
       have Hmv := Lib.hid hmv
       have Hpl : Hid ((pth ++ lapP ⟨p, 0, st, sk, true⟩ f' (cnt xs' f')).length ≤ 96 * (j + 1)) := Lib.hid (by omega)
       have hsz0 := HJ.out.sz
       clear hmv ha hK hnx hrow hlen hpl hcn
       go_wp2_with fail
       go_still_tail 8, (by kernel_rfl)
       go_wp2_with fail
       refine HN.out.mono ?_
       rintro e w5 ⟨v5, rfl, hb', hr', hs', hrow', hsz'⟩
       have HJ2 : Hid (SwJ u2 ⟨p, 0, st, sk, true⟩ p s c l st sk true fe ag t MV rb s0 b5 c5 b6 c6 pn1 wc.heap.size (j + 1) (cx ⟨p, 0, st, sk, true⟩ xs' f' (cnt xs' f')) (cy ⟨p, 0, st, sk, true⟩ ys' f' (cnt xs' f')) (lst ⟨p, 0, st, sk, true⟩ xs' f') (pth ++ lapP ⟨p, 0, st, sk, true⟩ f' (cnt xs' f')) v5 w5) := Lib.hid ⟨Hnx.out, Hmv.out, hb', hr', hs', hrow', Hpl.out, Nat.le_trans hsz0 hsz'⟩
       clear hb' hr' hs' hrow' hsz' HJ
       go_wp2_with fail
       go_roundg (100 - (j + 1))
       case measure => omega
       case rel => exact ⟨j + 1, _, _, _, _, rfl, by omega, HJ2.out⟩
     ·have ha : agn ⟨p, 0, st, sk, true⟩ xs' f' = false := by rw [hag]; simpa using hv
      clear hag hK
      have hmv : MV = some ⟨cx ⟨p, 0, st, sk, true⟩ xs' f' (cnt xs' f'), cy ⟨p, 0, st, sk, true⟩ ys' f' (cnt xs' f'), lst ⟨p, 0, st, sk, true⟩ xs' f', j + 1, pth ++ lapP ⟨p, 0, st, sk, true⟩ f' (cnt xs' f')⟩ := by rw [← HJ.out.mv, show 100 - j = (99 - j) + 1 by omega, mvF_no ha]
      have Hmv := Lib.hid hmv
      clear hmv ha
      obtain ⟨zl, z0, z1, z2, z3, y0, y1, y2, y3⟩ := HZ.out.below HJ.out.be
      go_wp2_with fail
      rw [Hmv.out]
      refine bodyPost_ret (v := .tuple #[.agg #[.slice (some ⟨b5, 0, none⟩) pn1 c5, .slice (some ⟨b6, 0, none⟩) 2 c6, .int .i64 (K : Int), .int .i64 ((j : Int) + 1)], u10, .bool true]) (by simp [results, Tryz.results155, go_sem, z0, z1, z2, z3]) rfl (by rw [← HK.out]; exact sow_yes p s c l st sk true fe ag HW.out hwu hwc HJ.out hl5 hl6 hk5 hk6 hn5 hn6)
theorem specSow1 (p s c l : Int) (st sk re fe ag : Bool) (p1 p2 : Option Addr) (pn1 pc1 pc2 : Nat) (xs ys : List Int) (F rb pb : Nat) (w : World) (t : Int) (hr : RuAt w rb p s c l st sk re fe ag) (hq : PoAt w pb p1 p2 pn1 pc1 2 pc2 1) (h : PosR w p1 p2 pn1 2 xs ys) (hp : 2 ≤ p) (hp8 : p ≤ 8)
  (hL : Lap ⟨p, 1, st, sk, re⟩ xs ys F t) (MV : Option Res) (hMV : mvF ⟨p, 1, st, sk, re⟩ 100 xs ys F 0 [] = MV) :
  Calls Tryz.prog 155 #[.pointer (some ⟨rb, 0, none⟩), .pointer (some ⟨pb, 0, none⟩), .int .i64 F] w (SwQ pn1 MV w) := by
 have H := Lib.hid h
 have HL := Lib.hid hL
 have HMV := Lib.hid hMV
 have HN1 : Hid (xs ≠ []) := Lib.hid (by intro e; have := hL.brd.lx; subst e; simp at this; omega)
 have HN2 : Hid (ys ≠ []) := Lib.hid (by intro e; have := hL.brd.ly; subst e; simp at this)
 have hle1 : pn1 ≤ 1000000000000 := by have := h.r1.1; rwa [h.l1] at this
 have hle2 : 2 ≤ 1000000000000 := by omega
 have HP := Lib.hid (hq.below (al1 _ (.cells #[.slice none 0 0, .slice none 0 0, .int .i64 0, .int .i64 0] 121)))
 have HU := Lib.hid (hr.below (al1 _ (.cells #[.slice none 0 0, .slice none 0 0, .int .i64 0, .int .i64 0] 121)))
 have HW := Lib.hid (al1 w (.cells #[.slice none 0 0, .slice none 0 0, .int .i64 0, .int .i64 0] 121))
 have HZ := Lib.hid (z4_new w 121)
 have HNF := Lib.hid (nf_new w #[.slice none 0 0, .slice none 0 0, .int .i64 0, .int .i64 0] 121)
 have hrb : rb < w.heap.size := hr.1
 have hpb : pb < w.heap.size := hq.1
 clear h hL hMV hr hq
 go_enter Tryz.func155, Tryz.ntmps155
 go_upto_region 1 with fail
 generalize w.alloc (.cells #[.slice none 0 0, .slice none 0 0, .int .i64 0, .int .i64 0] 121) = u2 at *
 have H := Lib.hid (H.out.below HW.out)
 have hwu : w.heap.size < u2.heap.size := HZ.out.lt
 have HB := Lib.hid (show OnW u2 u2 from Below.refl _ _)
 have HT : Hid (∀ u : World, PoAt u pb p1 p2 pn1 pc1 2 pc2 1 → OnW u2 u → (pb < u.heap.size ∧ u.cell? ⟨pb, 0, none⟩ = some (.slice p1 pn1 pc1) ∧ u.cell? ⟨pb, 1, none⟩ = some (.slice p2 2 pc2) ∧ u.cell? ⟨pb, 2, none⟩ = some (.int .i64 1)) ∧ Below u2.heap.size u2 u) := Lib.hid (fun u h k => ⟨h, k⟩)
 go_cut [9] (fun s9 wx => ∃ s0 b5 c5 b6 c6 : Nat, s9 = .pointer (some ⟨s0, 0, none⟩) ∧ SowF u2 p s c l st sk re fe ag p1 p2 pn1 pc1 2 pc2 1 rb pb s0 b5 c5 b6 c6 xs ys wx)
 case first =>
  go_region_held3 (fun u => (pb < u.heap.size ∧ u.cell? ⟨pb, 0, none⟩ = some (.slice p1 pn1 pc1) ∧ u.cell? ⟨pb, 1, none⟩ = some (.slice p2 2 pc2) ∧ u.cell? ⟨pb, 2, none⟩ = some (.int .i64 1)) ∧ Below u2.heap.size u2 u) (first | with_reducible exact HT.out _ HP.out HB.out | with_reducible exact HT.out _ HP.out.drew HB.out.drew | with_reducible exact HT.out _ (HP.out.below (al1 _ _)) (HB.out.below (al1 _ _)) | with_reducible exact HT.out _ (HP.out.drew.below (al1 _ _)) (HB.out.drew.below (al1 _ _)) | with_reducible exact HT.out _ (HP.out.below (al1 _ _)).drew (HB.out.below (al1 _ _)).drew | with_reducible exact HT.out _ (HP.out.set4 (by omega) _ _ _ _) (HB.out.set4 (by omega) _ _ _ _) | with_reducible exact HT.out _ ((HP.out.below (al1 _ _)).set4 (by omega) _ _ _ _) ((HB.out.below (al1 _ _)).set4 (by omega) _ _ _ _))
   (first
   | (go_at_call 69; (with_reducible refine (l00Own_any p1 pc1 pn1 xs _ H.out.l1 ?_ HN1.out).mono ?_); (first | with_reducible exact H.out.r1.below (HB.out).bel | with_reducible exact H.out.r1.below (HB.out.drew).bel | with_reducible exact H.out.r1.below (HB.out.below (al1 _ _)).bel | with_reducible exact H.out.r1.below (HB.out.drew.below (al1 _ _)).bel | with_reducible exact H.out.r1.below ((HB.out.below (al1 _ _)).drew).bel); rintro e w5 ⟨v1, rfl, hown, hb5⟩; (obtain ⟨c5, b5, rfl, o5, hlt5, hc5⟩ := outN_own hown H.out.l1 hle1 HN1.out); have O1 := Lib.hid o5; have nb1 := o5.new; (first | have HY := Lib.hid ((z4_new u2 121).drew.below hb5) | have HY := Lib.hid ((z4_new u2.drew 121).below hb5) | have HY := Lib.hid ((z4_new u2 121).below hb5) | skip); (first | have HG := Lib.hid ((nf_new u2 _ 121).drew.below hb5) | have HG := Lib.hid ((nf_new u2.drew _ 121).below hb5) | have HG := Lib.hid ((nf_new u2 _ 121).below hb5) | skip); (first | have HP := Lib.hid (HP.out.below hb5) | have HP := Lib.hid (HP.out.drew.below hb5) | have HP := Lib.hid ((HP.out.below (al1 _ _)).below hb5) | have HP := Lib.hid ((HP.out.below (al1 _ _)).drew.below hb5)); (first | have HU := Lib.hid (HU.out.below hb5) | have HU := Lib.hid (HU.out.drew.below hb5) | have HU := Lib.hid ((HU.out.below (al1 _ _)).below hb5) | have HU := Lib.hid ((HU.out.below (al1 _ _)).drew.below hb5)); (first | have HB := Lib.hid (HB.out.below hb5) | have HB := Lib.hid (HB.out.drew.below hb5) | have HB := Lib.hid ((HB.out.below (al1 _ _)).below hb5) | have HB := Lib.hid ((HB.out.below (al1 _ _)).drew.below hb5)); have nz5 := HP.out.1; have nb5 := HB.out.size; clear hown hb5 o5)
   | (go_at_call 69; (with_reducible refine (l00Own_any p2 pc2 2 ys _ H.out.l2 ?_ HN2.out).mono ?_); (first | with_reducible exact H.out.r2.below (HB.out).bel | with_reducible exact H.out.r2.below (HB.out.drew).bel | with_reducible exact H.out.r2.below (HB.out.below (al1 _ _)).bel | with_reducible exact H.out.r2.below (HB.out.drew.below (al1 _ _)).bel | with_reducible exact H.out.r2.below ((HB.out.below (al1 _ _)).drew).bel); rintro e w6 ⟨v2, rfl, hown, hb6⟩; (obtain ⟨c6, b6, rfl, o6, hlt6, hc6⟩ := outN_own hown H.out.l2 hle2 HN2.out); have O2 := Lib.hid o6; have nb2 := o6.new; (first | have HY := Lib.hid (HY.out.below hb6) | have HY := Lib.hid (HY.out.drew.below hb6) | have HY := Lib.hid ((z4_new w5 121).below hb6) | have HY := Lib.hid ((z4_new w5 121).drew.below hb6) | have HY := Lib.hid ((z4_new w5.drew 121).below hb6) | skip); (first | have HG := Lib.hid (HG.out.below hb6) | have HG := Lib.hid (HG.out.drew.below hb6) | have HG := Lib.hid ((nf_new w5 _ 121).below hb6) | have HG := Lib.hid ((nf_new w5 _ 121).drew.below hb6) | have HG := Lib.hid ((nf_new w5.drew _ 121).below hb6) | skip); (try obtain ⟨yz, y0, y1, y2, y3, k0, k1, k2, k3⟩ := HY.out); (first | have HP := Lib.hid (HP.out.below hb6) | have HP := Lib.hid (HP.out.drew.below hb6) | have HP := Lib.hid ((HP.out.below (al1 _ _)).below hb6) | have HP := Lib.hid ((HP.out.below (al1 _ _)).drew.below hb6)); (first | have HU := Lib.hid (HU.out.below hb6) | have HU := Lib.hid (HU.out.drew.below hb6) | have HU := Lib.hid ((HU.out.below (al1 _ _)).below hb6) | have HU := Lib.hid ((HU.out.below (al1 _ _)).drew.below hb6)); (first | have HB := Lib.hid (HB.out.below hb6) | have HB := Lib.hid (HB.out.drew.below hb6) | have HB := Lib.hid ((HB.out.below (al1 _ _)).below hb6) | have HB := Lib.hid ((HB.out.below (al1 _ _)).drew.below hb6)); (first | have O1 := Lib.hid (O1.out.below hb6) | have O1 := Lib.hid (O1.out.drew.below hb6) | have O1 := Lib.hid ((O1.out.below (al1 _ _)).below hb6) | have O1 := Lib.hid ((O1.out.below (al1 _ _)).drew.below hb6)); have nz6 := HP.out.1; have nb6 := HB.out.size; clear hown hb6 o6))
  all_goals (try simp at nb1)
  all_goals (try simp at nb2)
  all_goals go_wp2_with fail
  all_goals go_meet
  all_goals have hl5 := (O1.out.free HN1.out).1
  all_goals have hb5' := HB.out.size
  all_goals first
   | exact ⟨_, _, _, _, _, rfl, sow_fin2 p s c l st sk re fe ag p1 p2 pn1 pc1 2 pc2 1 121 HP.out HU.out HB.out O1.out O2.out H.out.l1 H.out.l2 (by omega) hl5 hlt6 (by first | omega | (simp; done) | (simp; omega)) (by first | omega | (simp; done) | (simp; omega)) hc5 hc6⟩
   | exact ⟨_, _, _, _, _, rfl, sow_fin p s c l st sk re fe ag p1 p2 pn1 pc1 2 pc2 1 HP.out HU.out HB.out HY.out HG.out.2 O1.out O2.out H.out.l1 H.out.l2 (by omega) (by omega) (by omega) hl5 hlt6 (by omega) (by omega) (by omega) (by first | omega | (simp; done) | (simp; omega)) (by first | omega | (simp; done) | (simp; omega)) hc5 hc6⟩
 case rest =>
  obtain ⟨s0, b5, c5, b6, c6, rfl, hF⟩ := hcut
  have HF := Lib.hid hF
  obtain ⟨_, t0, t1, t2⟩ := hF.po
  clear hF HU HB HT
  go_wp2_with fail
  have HFb := Lib.hid (show RuAt _ rb p s c l st sk re fe ag ∧ SoS _ u2.heap.size s0 b5 c5 b6 c6 pn1 0 0 xs ys ∧ Below u2.heap.size u2 _ from ⟨HF.out.ru.below (al1 wc (.cells #[] 2)), HF.out.so.below (al1 wc (.cells #[] 2)), OnW.below (show OnW u2 wc from HF.out.on) (al1 wc (.cells #[] 2))⟩)
  have hl5 := HF.out.l5
  have hl6 := HF.out.l6
  have hms := HF.out.ms
  have hs0 := HF.out.so.so.1
  have hn5 := HF.out.so.o1.new
  have hn6 := HF.out.so.o2.new
  have hwc : u2.heap.size ≤ wc.heap.size := Below.size HF.out.on
  have hrow0 := World.ownsRow_made (e := 2) (size := 1) wc #[] 0 (Nat.le_refl _) (by decide) rfl
  have HLap : Hid (Calls Tryz.prog 172 #[.pointer (some ⟨rb, 0, none⟩), .pointer (some ⟨s0, 0, none⟩), .int .i64 1, .int .i64 (F : Int), .slice (some ⟨wc.heap.size, 0, none⟩) 0 0] (wc.alloc (.cells #[] 2)) (LapD u2 (wc.alloc (.cells #[] 2)) ⟨p, 1, st, sk, re⟩ (fun u => RuAt u rb p s c l st sk re fe ag) s0 b5 c5 b6 c6 pn1 wc.heap.size 0 F xs ys [])) := Lib.hid
   (specLap1 u2 (wc.alloc (.cells #[] 2)) ⟨p, 1, st, sk, re⟩ p s c l st sk re fe ag rfl t rb s0 b5 c5 b6 c6 pn1 wc.heap.size 0 0 F xs ys [] _ hp hp8 HL.out HFb.out.2.2 HFb.out.1 HFb.out.2.1 hrow0 (by simp) hwc (by omega) hs0 hl5 hl6 (by omega) (by omega) (by omega) (by omega) (by omega) (by simp) hms)
  refine HLap.out.mono ?_
  rintro e w3 ⟨v3, rfl, hb3, hr3, hs3, hrow3, hsz3⟩
  have HJ : Hid (SwJ u2 ⟨p, 1, st, sk, re⟩ p s c l st sk re fe ag t MV rb s0 b5 c5 b6 c6 pn1 wc.heap.size 0 xs ys F [] v3 w3) := Lib.hid ⟨HL.out, HMV.out, hb3, hr3, hs3, hrow3, by simp, Nat.le_trans (by simp) hsz3⟩
  clear hb3 hr3 hs3 hrow3 hsz3 hrow0 t0 t1 t2 HLap HFb
  go_wp2_with fail
  have hR : Rl.Fit ⟨p, 1, st, sk, re⟩ := ⟨hp, hp8, by simp⟩
  have HRf := Lib.hid hR
  have hk5 := HF.out.k5
  have hk6 := HF.out.k6
  clear hR HMV HL
  go_loopg [10] 100 (fun q pv wr => ∃ (j : Nat) (xs' ys' : List Int) (f' : Int) (pth : List Int), q = 100 - j ∧ j < 100 ∧ SwJ u2 ⟨p, 1, st, sk, re⟩ p s c l st sk re fe ag t MV rb s0 b5 c5 b6 c6 pn1 wc.heap.size j xs' ys' f' pth pv wr)
  case atStart => exact ⟨0, xs, ys, F, [], rfl, by omega, HJ.out⟩
  case round =>
   obtain ⟨j, xs', ys', f', pth, rfl, hj, hJ⟩ := hrel
   have HJ := Lib.hid hJ
   have hlb := hJ.lap.at_bd HRf.out (cnt xs' f' - 1)
   have hl1 := hJ.so.l1
   obtain ⟨_, r0, r1, r2, r3, r4, r5, r6, r7, r8⟩ := hJ.ru
   obtain ⟨_, k0, k1, k2, k3⟩ := hJ.so.so
   have hnum := hJ.lap.brd.lx
   clear hJ
   rcases re with _ | _
   ·have ha : agn ⟨p, 1, st, sk, false⟩ xs' f' = false := rfl
    clear hlb hnum hl1
    have hmv : MV = some ⟨cx ⟨p, 1, st, sk, false⟩ xs' f' (cnt xs' f'), cy ⟨p, 1, st, sk, false⟩ ys' f' (cnt xs' f'), lst ⟨p, 1, st, sk, false⟩ xs' f', j + 1, pth ++ lapP ⟨p, 1, st, sk, false⟩ f' (cnt xs' f')⟩ := by rw [← HJ.out.mv, show 100 - j = (99 - j) + 1 by omega, mvF_no ha]
    have Hmv := Lib.hid hmv
    clear hmv ha
    obtain ⟨zl, z0, z1, z2, z3, y0, y1, y2, y3⟩ := HZ.out.below HJ.out.be
    go_wp2_with fail
    rw [Hmv.out]
    refine bodyPost_ret (v := .tuple #[.agg #[.slice (some ⟨b5, 0, none⟩) pn1 c5, .slice (some ⟨b6, 0, none⟩) 2 c6, .int .i64 (lst ⟨p, 1, st, sk, false⟩ xs' f'), .int .i64 ((j : Int) + 1)], u10, .bool true]) (by simp [results, Tryz.results155, go_sem, z0, z1, z2, z3]) rfl (sow_yes p s c l st sk false fe ag HW.out hwu hwc HJ.out hl5 hl6 hk5 hk6 hn5 hn6)
   ·have hlst : lst ⟨p, 1, st, sk, true⟩ xs' f' = Rl.at ⟨p, 1, st, sk, true⟩ f' (cnt xs' f' - 1) := rfl
    rw [← hlst] at hlb
    by_cases hneg : lst ⟨p, 1, st, sk, true⟩ xs' f' = -1
    ·have ha : agn ⟨p, 1, st, sk, true⟩ xs' f' = false := by unfold agn; rw [hneg]; simp
     have tn : ¬ 0 ≤ lst ⟨p, 1, st, sk, true⟩ xs' f' := by omega
     clear hlb hnum hl1 hlst hneg
     have hmv : MV = some ⟨cx ⟨p, 1, st, sk, true⟩ xs' f' (cnt xs' f'), cy ⟨p, 1, st, sk, true⟩ ys' f' (cnt xs' f'), lst ⟨p, 1, st, sk, true⟩ xs' f', j + 1, pth ++ lapP ⟨p, 1, st, sk, true⟩ f' (cnt xs' f')⟩ := by rw [← HJ.out.mv, show 100 - j = (99 - j) + 1 by omega, mvF_no ha]
     have Hmv := Lib.hid hmv
     clear hmv ha
     obtain ⟨zl, z0, z1, z2, z3, y0, y1, y2, y3⟩ := HZ.out.below HJ.out.be
     go_wp2_with fail
     rw [Hmv.out]
     refine bodyPost_ret (v := .tuple #[.agg #[.slice (some ⟨b5, 0, none⟩) pn1 c5, .slice (some ⟨b6, 0, none⟩) 2 c6, .int .i64 (lst ⟨p, 1, st, sk, true⟩ xs' f'), .int .i64 ((j : Int) + 1)], u10, .bool true]) (by simp [results, Tryz.results155, go_sem, z0, z1, z2, z3]) rfl (sow_yes p s c l st sk true fe ag HW.out hwu hwc HJ.out hl5 hl6 hk5 hk6 hn5 hn6)
    ·obtain ⟨K, hK⟩ : ∃ K : Nat, lst ⟨p, 1, st, sk, true⟩ xs' f' = (K : Int) := ⟨(lst ⟨p, 1, st, sk, true⟩ xs' f').toNat, by omega⟩
     have hdone := (HJ.out.lap.done HRf.out).lx
     have hKn : K < pn1 := by
      have h1 := hlb.2
      have h2 := HJ.out.so.l1
      rw [hK] at h1
      omega
     obtain ⟨y1, y2, y3⟩ := HJ.out.so.x hKn
     have hag : agn ⟨p, 1, st, sk, true⟩ xs' f' = decide (1 < (cx ⟨p, 1, st, sk, true⟩ xs' f' (cnt xs' f')).getD K 0) := by
      unfold agn
      rw [hK, Int.toNat_natCast]
      have e : decide ((K : Int) ≠ -1) = true := by first | (simp; done) | (simp; omega)
      rw [e]; rfl
     have hK0 : (0 : Int) ≤ (K : Int) := by omega
     have hK1 : (K : Int) < (pn1 : Int) := by omega
     rw [hK] at k2
     have HK := Lib.hid hK
     generalize (cx ⟨p, 1, st, sk, true⟩ xs' f' (cnt xs' f')).getD K 0 = v at *
     clear hdone hlb hnum hl1 hlst hneg
     by_cases hv : 1 < v
     ·have ha : agn ⟨p, 1, st, sk, true⟩ xs' f' = true := by rw [hag]; simpa using hv
      clear hag
      by_cases h99 : j = 99
      ·have hmv : MV = none := by rw [← HJ.out.mv, show 100 - j = 0 + 1 by omega, mvF_yes ha]; rfl
       have Hmv := Lib.hid hmv
       have h100 : (100 : Int) ≤ (j : Int) + 1 := by omega
       clear hmv ha hK h99
       obtain ⟨zl, z0, z1, z2, z3, q0, q1, q2, q3⟩ := HZ.out.below HJ.out.be
       go_wp2_with fail
       rw [Hmv.out]
       refine bodyPost_ret (v := .tuple #[.agg #[.slice none 0 0, .slice none 0 0, .int .i64 0, .int .i64 0], .slice none 0 0, .bool false]) (by simp [results, Tryz.results155, go_sem, z0, z1, z2, z3]) rfl ⟨rfl, OnW.set4 (show OnW w wr from Below.trans HW.out (HJ.out.be.mono (Nat.le_of_lt hwu))) (Nat.le_refl _) _ _ _ _⟩
      ·have h100 : ¬ (100 : Int) ≤ (j : Int) + 1 := by omega
       obtain ⟨_, t0, t1, t2⟩ := HP.out.below HJ.out.be
       have hlen : (pth ++ lapP ⟨p, 1, st, sk, true⟩ f' (cnt xs' f')).length = pth.length + cnt xs' f' := by rw [List.length_append, lapP_len]
       have hcn := HJ.out.lap.num_le
       have hpl := HJ.out.pl
       have hnx := HJ.out.lap.next HRf.out ha
       have hrow : wr.ownsRow wc.heap.size 2 1 u10 (pth ++ lapP ⟨p, 1, st, sk, true⟩ f' (cnt xs' f')).length (nvs (pth ++ lapP ⟨p, 1, st, sk, true⟩ f' (cnt xs' f'))) := by rw [hlen]; exact HJ.out.row
       have HN : Hid (Calls Tryz.prog 172 #[.pointer (some ⟨rb, 0, none⟩), .pointer (some ⟨s0, 0, none⟩), .int .i64 1, .int .i64 (K : Int), u10] wr.drew (LapD u2 wr.drew ⟨p, 1, st, sk, true⟩ (fun u => RuAt u rb p s c l st sk true fe ag) s0 b5 c5 b6 c6 pn1 wc.heap.size ((j : Int) + 1) (lst ⟨p, 1, st, sk, true⟩ xs' f') (cx ⟨p, 1, st, sk, true⟩ xs' f' (cnt xs' f')) (cy ⟨p, 1, st, sk, true⟩ ys' f' (cnt xs' f')) (pth ++ lapP ⟨p, 1, st, sk, true⟩ f' (cnt xs' f')))) := Lib.hid (by
        rw [← hK]
        exact specLap1 u2 wr.drew ⟨p, 1, st, sk, true⟩ p s c l st sk true fe ag rfl t rb s0 b5 c5 b6 c6 pn1 wc.heap.size (lst ⟨p, 1, st, sk, true⟩ xs' f') ((j : Int) + 1) (lst ⟨p, 1, st, sk, true⟩ xs' f') (cx ⟨p, 1, st, sk, true⟩ xs' f' (cnt xs' f')) (cy ⟨p, 1, st, sk, true⟩ ys' f' (cnt xs' f')) (pth ++ lapP ⟨p, 1, st, sk, true⟩ f' (cnt xs' f')) u10 hp hp8 hnx HJ.out.be.drew (HJ.out.ru.below (Below.refl _ _).drew) (HJ.out.so.below (Below.refl _ _).drew) (own_keep hrow (Below.refl _ _).drew) HJ.out.sz hwc (by omega) hs0 hl5 hl6 (by omega) (by omega) (by omega) (by omega) (by omega) (by omega) hms)
       have Hnx := Lib.hid hnx
       have hmv := HJ.out.mv
       rw [show 100 - j = (100 - (j + 1)) + 1 by omega, mvF_yes ha] at hmv
       have Hmv := Lib.hid hmv
       have Hpl : Hid ((pth ++ lapP ⟨p, 1, st, sk, true⟩ f' (cnt xs' f')).length ≤ 96 * (j + 1)) := Lib.hid (by omega)
       have hsz0 := HJ.out.sz
       clear hmv ha hK hnx hrow hlen hpl hcn
       go_wp2_with fail
       go_still_tail 8, (by kernel_rfl)
       go_wp2_with fail
       refine HN.out.mono ?_
       rintro e w5 ⟨v5, rfl, hb', hr', hs', hrow', hsz'⟩
       have HJ2 : Hid (SwJ u2 ⟨p, 1, st, sk, true⟩ p s c l st sk true fe ag t MV rb s0 b5 c5 b6 c6 pn1 wc.heap.size (j + 1) (cx ⟨p, 1, st, sk, true⟩ xs' f' (cnt xs' f')) (cy ⟨p, 1, st, sk, true⟩ ys' f' (cnt xs' f')) (lst ⟨p, 1, st, sk, true⟩ xs' f') (pth ++ lapP ⟨p, 1, st, sk, true⟩ f' (cnt xs' f')) v5 w5) := Lib.hid ⟨Hnx.out, Hmv.out, hb', hr', hs', hrow', Hpl.out, Nat.le_trans hsz0 hsz'⟩
       clear hb' hr' hs' hrow' hsz' HJ
       go_wp2_with fail
       go_roundg (100 - (j + 1))
       case measure => omega
       case rel => exact ⟨j + 1, _, _, _, _, rfl, by omega, HJ2.out⟩
     ·have ha : agn ⟨p, 1, st, sk, true⟩ xs' f' = false := by rw [hag]; simpa using hv
      clear hag hK
      have hmv : MV = some ⟨cx ⟨p, 1, st, sk, true⟩ xs' f' (cnt xs' f'), cy ⟨p, 1, st, sk, true⟩ ys' f' (cnt xs' f'), lst ⟨p, 1, st, sk, true⟩ xs' f', j + 1, pth ++ lapP ⟨p, 1, st, sk, true⟩ f' (cnt xs' f')⟩ := by rw [← HJ.out.mv, show 100 - j = (99 - j) + 1 by omega, mvF_no ha]
      have Hmv := Lib.hid hmv
      clear hmv ha
      obtain ⟨zl, z0, z1, z2, z3, y0, y1, y2, y3⟩ := HZ.out.below HJ.out.be
      go_wp2_with fail
      rw [Hmv.out]
      refine bodyPost_ret (v := .tuple #[.agg #[.slice (some ⟨b5, 0, none⟩) pn1 c5, .slice (some ⟨b6, 0, none⟩) 2 c6, .int .i64 (K : Int), .int .i64 ((j : Int) + 1)], u10, .bool true]) (by simp [results, Tryz.results155, go_sem, z0, z1, z2, z3]) rfl (by rw [← HK.out]; exact sow_yes p s c l st sk true fe ag HW.out hwu hwc HJ.out hl5 hl6 hk5 hk6 hn5 hn6)
/- Tk7 -/
def SoP (n1 n2 : Nat) (la lp : Int) (xs ys : List Int) (w : World) (e : Ending) (w' : World) : Prop :=
 ∃ b1 c1 b2 c2, e = .returned (.agg #[.slice (some ⟨b1, 0, none⟩) n1 c1, .slice (some ⟨b2, 0, none⟩) n2 c2, .int .i64 la, .int .i64 lp]) ∧ PosO w' w.heap.size (some ⟨b1, 0, none⟩) (some ⟨b2, 0, none⟩) b1 b2 n1 n2 xs ys ∧ b1 < w'.heap.size ∧ b2 < w'.heap.size ∧ n1 ≤ c1 ∧ n2 ≤ c2 ∧ Below w.heap.size w w'
theorem CpAt.but {w u v : World} {p s c l player : Int} {st sk re fe ag : Bool} {p1 p2 : Option Addr} {pn1 pc1 pn2 pc2 : Nat} {pp pq : Int} {z : Nat} (h : CpAt w p s c l st sk re fe ag player p1 p2 pn1 pc1 pn2 pc2 pp pq u) (k : But z u v) (hz : w.heap.size < z) : CpAt w p s c l st sk re fe ag player p1 p2 pn1 pc1 pn2 pc2 pp pq v := by
 obtain ⟨⟨hb, h⟩, hw⟩ := h
 have e := fun o => k.cell (c := w.heap.size) (o := o) hb (by omega)
 exact ⟨⟨Nat.lt_of_lt_of_le hb k.size, by rw [e, e, e, e, e, e, e, e, e, e, e, e, e, e]; exact h⟩, But.lift hw k (Nat.le_of_lt hz)⟩
theorem CpAt.set4 {w u : World} {p s c l player : Int} {st sk re fe ag : Bool} {p1 p2 : Option Addr} {pn1 pc1 pn2 pc2 : Nat} {pp pq : Int} {z : Nat} (h : CpAt w p s c l st sk re fe ag player p1 p2 pn1 pc1 pn2 pc2 pp pq u) (hz : w.heap.size < z) (x y t q : Value) : CpAt w p s c l st sk re fe ag player p1 p2 pn1 pc1 pn2 pc2 pp pq ((((u.setCell ⟨z, 0, none⟩ x).setCell ⟨z, 1, none⟩ y).setCell ⟨z, 2, none⟩ t).setCell ⟨z, 3, none⟩ q) := h.but (but4 z u x y t q) hz
structure TkF (w : World) (p s c l : Int) (st sk re fe ag : Bool) (player : Int) (p1 p2 : Option Addr) (pn1 pc1 pn2 pc2 : Nat) (pp pq : Int) (s0 b5 c5 b6 c6 : Nat) (xs ys : List Int) (u : World) : Prop where
 cp : CpAt w p s c l st sk re fe ag player p1 p2 pn1 pc1 pn2 pc2 pp pq u
 z : Z4 u (w.heap.size + 1)
 so : SoS u (w.heap.size + 2) s0 b5 c5 b6 c6 pn1 pp pq xs ys
 l5 : b5 < u.heap.size
 l6 : b6 < u.heap.size
 k5 : pn1 ≤ c5
 k6 : 2 ≤ c6
 ms : w.heap.size + 2 ≤ s0
theorem Z4.but {u v : World} {z b : Nat} (h : Z4 u z) (k : But b u v) (hb : z ≠ b) : Z4 v z := by
 obtain ⟨h0, h1, h2, h3, h4, h5, h6, h7, h8⟩ := h
 have e := fun o => k.cell (c := z) (o := o) h0 hb
 have f := fun o => k.frozen (c := z) (o := o) h0 hb
 exact ⟨Nat.lt_of_lt_of_le h0 k.size, (e _).trans h1, (e _).trans h2, (e _).trans h3, (e _).trans h4, (f _).trans h5, (f _).trans h6, (f _).trans h7, (f _).trans h8⟩
theorem tk_fin {w u : World} (p s c l : Int) (st sk re fe ag : Bool) (player : Int) (p1 p2 : Option Addr) (pn1 pc1 pn2 pc2 : Nat) (pp pq : Int) {s0 b5 c5 b6 c6 B1 B2 : Nat} {xs ys : List Int} (hc : CpAt w p s c l st sk re fe ag player p1 p2 pn1 pc1 pn2 pc2 pp pq u) (hz : Z4 u (w.heap.size + 1)) (hY : Z4 u s0) (hf : ∀ o, u.frozen? ⟨s0, o, none⟩ = false)
  (o1 : OutN u B1 (some ⟨b5, 0, none⟩) b5 xs) (o2 : OutN u B2 (some ⟨b6, 0, none⟩) b6 ys) (l1 : xs.length = pn1) (l2 : ys.length = 2) (ne : b5 ≠ b6) (n5 : b5 ≠ s0) (n6 : b6 ≠ s0) (l5 : b5 < u.heap.size) (l6 : b6 < u.heap.size) (ms : w.heap.size + 2 ≤ s0) (hB1 : w.heap.size + 2 ≤ B1) (hB2 : w.heap.size + 2 ≤ B2) (k5 : pn1 ≤ c5) (k6 : 2 ≤ c6) :
  TkF w p s c l st sk re fe ag player p1 p2 pn1 pc1 pn2 pc2 pp pq s0 b5 c5 b6 c6 xs ys ((((u.setCell ⟨s0, 0, none⟩ (.slice (some ⟨b5, 0, none⟩) pn1 c5)).setCell ⟨s0, 1, none⟩ (.slice (some ⟨b6, 0, none⟩) 2 c6)).setCell ⟨s0, 2, none⟩ (.int .i64 pp)).setCell ⟨s0, 3, none⟩ (.int .i64 pq)) := by
 have hb := but4 s0 u (.slice (some ⟨b5, 0, none⟩) pn1 c5) (.slice (some ⟨b6, 0, none⟩) 2 c6) (.int .i64 pp) (.int .i64 pq)
 obtain ⟨yl, y0, y1, y2, y3, f0, f1, f2, f3⟩ := hY
 exact ⟨hc.but hb (by omega), hz.but hb (by omega), ⟨⟨by simpa using yl, by go_simp, by go_simp, by go_simp, by go_simp⟩, fun o => by have := hf o; go_simp, (o1.but hb n5).lower hB1, (o2.but hb n6).lower hB2, l1, l2, fun e => n5 e.symm, fun e => n6 e.symm, ne⟩, by simpa using l5, by simpa using l6, k5, k6, ms⟩
theorem tk_fin2 {w u : World} (p s c l : Int) (st sk re fe ag : Bool) (player : Int) (p1 p2 : Option Addr) (pn1 pc1 pn2 pc2 : Nat) (pp pq : Int) {b5 c5 b6 c6 B1 B2 : Nat} {xs ys : List Int} (T : TypeId) (hc : CpAt w p s c l st sk re fe ag player p1 p2 pn1 pc1 pn2 pc2 pp pq u) (hz : Z4 u (w.heap.size + 1))
  (o1 : OutN u B1 (some ⟨b5, 0, none⟩) b5 xs) (o2 : OutN u B2 (some ⟨b6, 0, none⟩) b6 ys) (l1 : xs.length = pn1) (l2 : ys.length = 2) (ne : b5 ≠ b6) (l5 : b5 < u.heap.size) (l6 : b6 < u.heap.size) (hB1 : w.heap.size + 2 ≤ B1) (hB2 : w.heap.size + 2 ≤ B2) (k5 : pn1 ≤ c5) (k6 : 2 ≤ c6) :
  TkF w p s c l st sk re fe ag player p1 p2 pn1 pc1 pn2 pc2 pp pq u.heap.size b5 c5 b6 c6 xs ys (u.alloc (.cells #[.slice (some ⟨b5, 0, none⟩) pn1 c5, .slice (some ⟨b6, 0, none⟩) 2 c6, .int .i64 pp, .int .i64 pq] T)) :=
 ⟨hc.below (al1 _ _), hz.below (al1 _ _), ⟨so_new _ _ _ _ _ _ _ _ u T, fun o => by go_simp, (o1.below (al1 _ _)).lower hB1, (o2.below (al1 _ _)).lower hB2, l1, l2, by omega, by omega, ne⟩, by simp; omega, by simp; omega, k5, k6, hz.lt⟩
section
variable {w u v : World} {p s c l player : Int} {st sk re fe ag : Bool} {p1 p2 : Option Addr} {pn1 pc1 pn2 pc2 : Nat} {pp pq : Int} {s0 b5 c5 b6 c6 : Nat} {xs ys : List Int}
theorem TkF.below (h : TkF w p s c l st sk re fe ag player p1 p2 pn1 pc1 pn2 pc2 pp pq s0 b5 c5 b6 c6 xs ys u) (k : Below u.heap.size u v) : TkF w p s c l st sk re fe ag player p1 p2 pn1 pc1 pn2 pc2 pp pq s0 b5 c5 b6 c6 xs ys v :=
 ⟨h.cp.below k, h.z.below k, h.so.below k, Nat.lt_of_lt_of_le h.l5 k.size, Nat.lt_of_lt_of_le h.l6 k.size, h.k5, h.k6, h.ms⟩
theorem TkF.setX (h : TkF w p s c l st sk re fe ag player p1 p2 pn1 pc1 pn2 pc2 pp pq s0 b5 c5 b6 c6 xs ys u) {i : Nat} (hi : i < pn1) (x : Int) : TkF w p s c l st sk re fe ag player p1 p2 pn1 pc1 pn2 pc2 pp pq s0 b5 c5 b6 c6 (xs.set i x) ys (u.setCell ⟨b5, i, none⟩ (.int .i64 x)) :=
 have hb : But b5 u (u.setCell ⟨b5, i, none⟩ (.int .i64 x)) := (But.refl b5 u).setCell rfl _
 have h5 : w.heap.size + 2 ≤ b5 := h.so.o1.new
 ⟨h.cp.but hb (by omega), h.z.but hb (by omega), h.so.setX hi x, by simpa using h.l5, by simpa using h.l6, h.k5, h.k6, h.ms⟩
theorem TkF.setY (h : TkF w p s c l st sk re fe ag player p1 p2 pn1 pc1 pn2 pc2 pp pq s0 b5 c5 b6 c6 xs ys u) {i : Nat} (hi : i < 2) (x : Int) : TkF w p s c l st sk re fe ag player p1 p2 pn1 pc1 pn2 pc2 pp pq s0 b5 c5 b6 c6 xs (ys.set i x) (u.setCell ⟨b6, i, none⟩ (.int .i64 x)) :=
 have hb : But b6 u (u.setCell ⟨b6, i, none⟩ (.int .i64 x)) := (But.refl b6 u).setCell rfl _
 have h6 : w.heap.size + 2 ≤ b6 := h.so.o2.new
 ⟨h.cp.but hb (by omega), h.z.but hb (by omega), h.so.setY hi x, by simpa using h.l5, by simpa using h.l6, h.k5, h.k6, h.ms⟩
end
theorem set_self (ys : List Int) (i : Nat) (v : Int) (h : i < ys.length) : (ys.set i v).getD i 0 = v := by simp [List.getD, h]
theorem set_same (ys : List Int) (i : Nat) (h : i < ys.length) : ys.set i (ys.getD i 0 + 0) = ys := by
 apply List.ext_getElem?
 intro j
 by_cases e : i = j
 ·subst e
  simp [List.getD, h]
 ·rw [List.getElem?_set_ne e]
theorem nodup_take {L : List Int} (h : L.Nodup) {k : Nat} {q : Int} (hq : L[k]? = some q) : q ∉ L.take k := by
 intro hm
 obtain ⟨i, hi, e⟩ := List.mem_iff_getElem.1 hm
 rw [List.getElem_take] at e
 have hi2 : i < k := by simp at hi; omega
 obtain ⟨hk, e'⟩ := List.getElem?_eq_some_iff.1 hq
 exact (List.pairwise_iff_getElem.1 h) i k (by omega) hk hi2 (e.trans e'.symm)
theorem capTake_any (p s c l : Int) (st sk re fe ag : Bool) (player : Int) (p1 p2 : Option Addr) (pn1 pc1 pc2 : Nat) (pp pq : Int) (xs ys : List Int) (w : World) (h : PosR w p1 p2 pn1 2 xs ys) (g : Good p s c l st sk re fe ag player pn1 2 pp xs ys) (hcap : pn1 ≤ pc1) :
  Calls Tryz.prog 141 #[.agg #[.int .i64 p, .int .i64 s, .bool st, .bool sk, .bool re, .bool fe, .bool ag, .int .i64 c, .int .i64 l, .int .i64 player, .slice p1 pn1 pc1, .slice p2 2 pc2, .int .i64 pp, .int .i64 pq]] w (SoP pn1 2 pp pq (tkX c l p player pp xs) (tkY c l p player pp xs ys) w) := by
 obtain ⟨P, rfl⟩ : ∃ P : Nat, player = (P : Int) := ⟨player.toNat, by have := g.pl; omega⟩
 have hP2 : P < 2 := by have := g.pl; omega
 have HND := Lib.hid (pits_nodup c l p (P : Int) pp xs)
 have H := Lib.hid h
 have G := Lib.hid g
 have hle1 : pn1 ≤ 1000000000000 := by have := h.r1.1; rwa [h.l1] at this
 have hle2 : 2 ≤ 1000000000000 := by omega
 have HN1 : Hid (xs ≠ []) := Lib.hid (by intro e; have := h.l1; have := g.n1; have := g.p2.1; subst e; simp at *; omega)
 have HN2 : Hid (ys ≠ []) := Lib.hid (by intro e; have := h.l2; subst e; simp at this)
 have HP := Lib.hid ((cp_new p s c l st sk re fe ag (P : Int) p1 p2 pn1 pc1 2 pc2 pp pq w 123).below (al1 _ (.cells #[.slice none 0 0, .slice none 0 0, .int .i64 0, .int .i64 0] 121)))
 have HZ := Lib.hid (show Z4 _ (w.heap.size + 1) from by have := z4_new (w.alloc (.cells #[.int .i64 p, .int .i64 s, .bool st, .bool sk, .bool re, .bool fe, .bool ag, .int .i64 c, .int .i64 l, .int .i64 (P : Int), .slice p1 pn1 pc1, .slice p2 2 pc2, .int .i64 pp, .int .i64 pq] 123)) 121; simpa using this)
 have HPits : Hid (∀ u, Below w.heap.size w u → Calls Tryz.prog 163 #[.agg #[.int .i64 p, .int .i64 s, .bool st, .bool sk, .bool re, .bool fe, .bool ag, .int .i64 c, .int .i64 l, .int .i64 (P : Int), .slice p1 pn1 pc1, .slice p2 2 pc2, .int .i64 pp, .int .i64 pq]] u (OwnP (pitsF c l p (P : Int) pp xs) (pitsF c l p (P : Int) pp xs).length u)) := Lib.hid (fun u hu => pits_any p s c l st sk re fe ag (P : Int) _ _ _ _ _ _ _ _ xs ys u (h.below hu) g hcap)
 have HLp : Hid ((pitsF c l p (P : Int) pp xs).length ≤ 1000) := Lib.hid (by have := pits_len (cp := c) (sl := l) (pl := (P : Int)) (xs := xs) g.p2.2 g.p2.1 g.l2; omega)
 have HPin : Hid (∀ k ∈ pitsF c l p (P : Int) pp xs, 0 ≤ k ∧ k < (pn1 : Int)) := Lib.hid (fun k hk => by have := pits_in g.l2 k hk; have := g.n1; omega)
 rw [show tkX c l p (P : Int) pp xs = zeroAt xs (pitsF c l p (P : Int) pp xs) from rfl, show tkY c l p (P : Int) pp xs ys = ys.set P (ys.getD P 0 + sumAt xs (pitsF c l p (P : Int) pp xs)) from rfl]
 generalize pitsF c l p (P : Int) pp xs = L at *
 obtain ⟨TX, hTX⟩ : ∃ X, zeroAt xs L = X := ⟨_, rfl⟩
 obtain ⟨TY, hTY⟩ : ∃ Y, ys.set P (ys.getD P 0 + sumAt xs L) = Y := ⟨_, rfl⟩
 rw [hTX, hTY]
 have HTX := Lib.hid hTX
 have HTY := Lib.hid hTY
 clear h g hTX hTY
 go_enter Tryz.func141, Tryz.ntmps141
 go_upto_region 1 with fail
 generalize (w.alloc (.cells #[.int .i64 p, .int .i64 s, .bool st, .bool sk, .bool re, .bool fe, .bool ag, .int .i64 c, .int .i64 l, .int .i64 (P : Int), .slice p1 pn1 pc1, .slice p2 2 pc2, .int .i64 pp, .int .i64 pq] 123)).alloc (.cells #[.slice none 0 0, .slice none 0 0, .int .i64 0, .int .i64 0] 121) = u2 at *
 have HB := Lib.hid (show OnW u2 u2 from Below.refl _ _)
 have HW : Hid (Below w.heap.size w u2) := Lib.hid HP.out.be
 have hwu : w.heap.size + 1 < u2.heap.size := HZ.out.lt
 have H := Lib.hid (H.out.below HW.out)
 have HT : Hid (∀ u : World, CpAt w p s c l st sk re fe ag (P : Int) p1 p2 pn1 pc1 2 pc2 pp pq u → OnW u2 u → (w.heap.size < u.heap.size ∧ u.cell? ⟨w.heap.size, 0, none⟩ = some (.int .i64 p) ∧ u.cell? ⟨w.heap.size, 1, none⟩ = some (.int .i64 s) ∧ u.cell? ⟨w.heap.size, 2, none⟩ = some (.bool st) ∧ u.cell? ⟨w.heap.size, 3, none⟩ = some (.bool sk) ∧ u.cell? ⟨w.heap.size, 4, none⟩ = some (.bool re) ∧ u.cell? ⟨w.heap.size, 5, none⟩ = some (.bool fe) ∧ u.cell? ⟨w.heap.size, 6, none⟩ = some (.bool ag) ∧ u.cell? ⟨w.heap.size, 7, none⟩ = some (.int .i64 c) ∧ u.cell? ⟨w.heap.size, 8, none⟩ = some (.int .i64 l) ∧ u.cell? ⟨w.heap.size, 9, none⟩ = some (.int .i64 (P : Int)) ∧ u.cell? ⟨w.heap.size, 10, none⟩ = some (.slice p1 pn1 pc1) ∧ u.cell? ⟨w.heap.size, 11, none⟩ = some (.slice p2 2 pc2) ∧ u.cell? ⟨w.heap.size, 12, none⟩ = some (.int .i64 pp) ∧ u.cell? ⟨w.heap.size, 13, none⟩ = some (.int .i64 pq)) ∧ Below u2.heap.size u2 u) := Lib.hid (fun u h k => ⟨h.1, k⟩)
 go_cut [3] (fun s3 wx => ∃ s0 b5 c5 b6 c6 : Nat, s3 = .pointer (some ⟨s0, 0, none⟩) ∧ TkF w p s c l st sk re fe ag (P : Int) p1 p2 pn1 pc1 2 pc2 pp pq s0 b5 c5 b6 c6 xs ys wx)
 case first =>
  go_region_held3 (fun u => (w.heap.size < u.heap.size ∧ u.cell? ⟨w.heap.size, 0, none⟩ = some (.int .i64 p) ∧ u.cell? ⟨w.heap.size, 1, none⟩ = some (.int .i64 s) ∧ u.cell? ⟨w.heap.size, 2, none⟩ = some (.bool st) ∧ u.cell? ⟨w.heap.size, 3, none⟩ = some (.bool sk) ∧ u.cell? ⟨w.heap.size, 4, none⟩ = some (.bool re) ∧ u.cell? ⟨w.heap.size, 5, none⟩ = some (.bool fe) ∧ u.cell? ⟨w.heap.size, 6, none⟩ = some (.bool ag) ∧ u.cell? ⟨w.heap.size, 7, none⟩ = some (.int .i64 c) ∧ u.cell? ⟨w.heap.size, 8, none⟩ = some (.int .i64 l) ∧ u.cell? ⟨w.heap.size, 9, none⟩ = some (.int .i64 (P : Int)) ∧ u.cell? ⟨w.heap.size, 10, none⟩ = some (.slice p1 pn1 pc1) ∧ u.cell? ⟨w.heap.size, 11, none⟩ = some (.slice p2 2 pc2) ∧ u.cell? ⟨w.heap.size, 12, none⟩ = some (.int .i64 pp) ∧ u.cell? ⟨w.heap.size, 13, none⟩ = some (.int .i64 pq)) ∧ Below u2.heap.size u2 u) (first | with_reducible exact HT.out _ HP.out HB.out | with_reducible exact HT.out _ HP.out.drew HB.out.drew | with_reducible exact HT.out _ (HP.out.below (al1 _ _)) (HB.out.below (al1 _ _)) | with_reducible exact HT.out _ (HP.out.drew.below (al1 _ _)) (HB.out.drew.below (al1 _ _)) | with_reducible exact HT.out _ (HP.out.below (al1 _ _)).drew (HB.out.below (al1 _ _)).drew | with_reducible exact HT.out _ (HP.out.set4 (by omega) _ _ _ _) (HB.out.set4 (by omega) _ _ _ _) | with_reducible exact HT.out _ ((HP.out.below (al1 _ _)).set4 (by omega) _ _ _ _) ((HB.out.below (al1 _ _)).set4 (by omega) _ _ _ _))
   (first
   | (go_at_call 147; (with_reducible refine (clone_any p1 pc1 pn1 xs _ H.out.l1 ?_ HN1.out).mono ?_); (first | with_reducible exact H.out.r1.below (HB.out).bel | with_reducible exact H.out.r1.below (HB.out.drew).bel | with_reducible exact H.out.r1.below (HB.out.below (al1 _ _)).bel | with_reducible exact H.out.r1.below (HB.out.drew.below (al1 _ _)).bel | with_reducible exact H.out.r1.below ((HB.out.below (al1 _ _)).drew).bel); rintro e w5 ⟨v1, rfl, hown, hb5⟩; (obtain ⟨c5, b5, rfl, o5, hlt5, hc5⟩ := outN_own hown H.out.l1 hle1 HN1.out); have O1 := Lib.hid o5; have nb1 := o5.new; (first | have HY := Lib.hid ((z4_new u2 121).drew.below hb5) | have HY := Lib.hid ((z4_new u2.drew 121).below hb5) | have HY := Lib.hid ((z4_new u2 121).below hb5) | skip); (first | have HG := Lib.hid ((nf_new u2 _ 121).drew.below hb5) | have HG := Lib.hid ((nf_new u2.drew _ 121).below hb5) | have HG := Lib.hid ((nf_new u2 _ 121).below hb5) | skip); (first | have HP := Lib.hid (HP.out.below hb5) | have HP := Lib.hid (HP.out.drew.below hb5) | have HP := Lib.hid ((HP.out.below (al1 _ _)).below hb5) | have HP := Lib.hid ((HP.out.below (al1 _ _)).drew.below hb5)); (first | have HZ := Lib.hid (HZ.out.below hb5) | have HZ := Lib.hid (HZ.out.drew.below hb5) | have HZ := Lib.hid ((HZ.out.below (al1 _ _)).below hb5) | have HZ := Lib.hid ((HZ.out.below (al1 _ _)).drew.below hb5)); (first | have HB := Lib.hid (HB.out.below hb5) | have HB := Lib.hid (HB.out.drew.below hb5) | have HB := Lib.hid ((HB.out.below (al1 _ _)).below hb5) | have HB := Lib.hid ((HB.out.below (al1 _ _)).drew.below hb5)); have nz5 := HZ.out.lt; have nb5 := HB.out.size; clear hown hb5 o5)
   | (go_at_call 147; (with_reducible refine (clone_any p2 pc2 2 ys _ H.out.l2 ?_ HN2.out).mono ?_); (first | with_reducible exact H.out.r2.below (HB.out).bel | with_reducible exact H.out.r2.below (HB.out.drew).bel | with_reducible exact H.out.r2.below (HB.out.below (al1 _ _)).bel | with_reducible exact H.out.r2.below (HB.out.drew.below (al1 _ _)).bel | with_reducible exact H.out.r2.below ((HB.out.below (al1 _ _)).drew).bel); rintro e w6 ⟨v2, rfl, hown, hb6⟩; (obtain ⟨c6, b6, rfl, o6, hlt6, hc6⟩ := outN_own hown H.out.l2 hle2 HN2.out); have O2 := Lib.hid o6; have nb2 := o6.new; (first | have HY := Lib.hid (HY.out.below hb6) | have HY := Lib.hid (HY.out.drew.below hb6) | have HY := Lib.hid ((z4_new w5 121).below hb6) | have HY := Lib.hid ((z4_new w5 121).drew.below hb6) | have HY := Lib.hid ((z4_new w5.drew 121).below hb6) | skip); (first | have HG := Lib.hid (HG.out.below hb6) | have HG := Lib.hid (HG.out.drew.below hb6) | have HG := Lib.hid ((nf_new w5 _ 121).below hb6) | have HG := Lib.hid ((nf_new w5 _ 121).drew.below hb6) | have HG := Lib.hid ((nf_new w5.drew _ 121).below hb6) | skip); (try obtain ⟨yz, y0, y1, y2, y3, k0, k1, k2, k3⟩ := HY.out); (first | have HP := Lib.hid (HP.out.below hb6) | have HP := Lib.hid (HP.out.drew.below hb6) | have HP := Lib.hid ((HP.out.below (al1 _ _)).below hb6) | have HP := Lib.hid ((HP.out.below (al1 _ _)).drew.below hb6)); (first | have HZ := Lib.hid (HZ.out.below hb6) | have HZ := Lib.hid (HZ.out.drew.below hb6) | have HZ := Lib.hid ((HZ.out.below (al1 _ _)).below hb6) | have HZ := Lib.hid ((HZ.out.below (al1 _ _)).drew.below hb6)); (first | have HB := Lib.hid (HB.out.below hb6) | have HB := Lib.hid (HB.out.drew.below hb6) | have HB := Lib.hid ((HB.out.below (al1 _ _)).below hb6) | have HB := Lib.hid ((HB.out.below (al1 _ _)).drew.below hb6)); (first | have O1 := Lib.hid (O1.out.below hb6) | have O1 := Lib.hid (O1.out.drew.below hb6) | have O1 := Lib.hid ((O1.out.below (al1 _ _)).below hb6) | have O1 := Lib.hid ((O1.out.below (al1 _ _)).drew.below hb6)); have nz6 := HZ.out.lt; have nb6 := HB.out.size; clear hown hb6 o6))
  all_goals (try simp at nb1)
  all_goals (try simp at nb2)
  all_goals go_wp2_with fail
  all_goals go_meet
  all_goals have hl5 := (O1.out.free HN1.out).1
  all_goals have hb5' := HB.out.size
  all_goals first
   | exact ⟨_, _, _, _, _, rfl, tk_fin2 p s c l st sk re fe ag (P : Int) p1 p2 pn1 pc1 2 pc2 pp pq 121 HP.out HZ.out O1.out O2.out H.out.l1 H.out.l2 (by omega) hl5 hlt6 (by first | omega | (simp; done) | (simp; omega)) (by first | omega | (simp; done) | (simp; omega)) hc5 hc6⟩
   | exact ⟨_, _, _, _, _, rfl, tk_fin p s c l st sk re fe ag (P : Int) p1 p2 pn1 pc1 2 pc2 pp pq HP.out HZ.out HY.out HG.out.2 O1.out O2.out H.out.l1 H.out.l2 (by omega) (by omega) (by omega) hl5 hlt6 (by first | omega | (simp; done) | (simp; omega)) (by first | omega | (simp; done) | (simp; omega)) (by first | omega | (simp; done) | (simp; omega)) hc5 hc6⟩
 case rest =>
  obtain ⟨s0, b5, c5, b6, c6, rfl, hF⟩ := hcut
  have HF := Lib.hid hF
  obtain ⟨⟨_, c0, c1, c2, c3, c4, c5', c6', c7, c8, c9, c10, c11, c12, c13⟩, -⟩ := hF.cp
  have hF5 := hF.l5
  have hF6 := hF.l6
  clear hF HB HT HP HZ
  go_wp2_with fail
  refine (HPits.out _ HF.out.cp.be).mono ?_
  rintro e w5 ⟨v5, rfl, hown, hb5⟩
  have hbW := HF.out.cp.be
  have hwc : w.heap.size ≤ wc.heap.size := hbW.size
  have HF := Lib.hid (HF.out.below hb5)
  have HL5 := Lib.hid (show b5 < wc.heap.size ∧ b6 < wc.heap.size from ⟨hF5, hF6⟩)
  obtain ⟨a5, cc5, rfl, -⟩ := own_slice hown rfl HLp.out
  have HO := Lib.hid hown
  clear hown hb5 hF5 hF6
  go_wp2_with fail
  generalize hn : L.length = n at *
  have Hn := Lib.hid hn
  go_loopw [24] (fun i wr => ∃ (k : Nat), k ≤ n ∧ i = .int .i64 k ∧ TkF w p s c l st sk re fe ag (P : Int) p1 p2 pn1 pc1 2 pc2 pp pq s0 b5 c5 b6 c6 (zeroAt xs (L.take k)) (ys.set P (ys.getD P 0 + sumAt xs (L.take k))) wr ∧ wr.ownsRow wc.heap.size 2 1 (.slice a5 n cc5) n (nvs L)) (fun i _ => n - (intOf i).toNat)
  case atStart =>
   refine ⟨0, Nat.zero_le _, rfl, ?_, HO.out⟩
   rw [show sumAt xs (L.take 0) = 0 from rfl, set_same _ _ (by rw [H.out.l2]; exact hP2)]
   exact HF.out
  case round =>
   obtain ⟨k, hk, rfl, hI, hown⟩ := hrel
   have HI := Lib.hid hI
   have HOw := Lib.hid hown
   clear hI hown
   have hb := sumAt_bd G.out.q1 G.out.t1 (L.take k)
   rw [List.length_take] at hb
   have hly : P < ys.length := by rw [H.out.l2]; exact hP2
   have hy0 := posB_getD G.out.q2 P
   have hy1 : ys.getD P 0 ≤ 96 := by have := getD_le G.out.q2 P; have := posB_tot G.out.q1; have := G.out.q3; omega
   have hsb : 0 ≤ sumAt xs (L.take k) ∧ sumAt xs (L.take k) ≤ 96 * 1000 := by have := HLp.out; omega
   obtain ⟨hsb0, hsb1⟩ := hsb
   clear hb
   by_cases hlt : k < n
   ·obtain ⟨q, hq⟩ : ∃ q, L[k]? = some q := ⟨L[k]'(by rw [hn]; exact hlt), List.getElem?_eq_getElem _⟩
    obtain ⟨q0, q1⟩ := HPin.out q (List.mem_of_getElem? hq)
    obtain ⟨Q, rfl⟩ : ∃ Q : Nat, q = (Q : Int) := ⟨q.toNat, by omega⟩
    obtain ⟨_, _, e5, hr5⟩ := own_slice HOw.out hn HLp.out
    cases e5
    have hne : L ≠ [] := by intro e; subst e; cases hq
    obtain ⟨ga, oa, rfl, hga, hca⟩ := hr5.2.resolve_left hne
    have ya := hca k _ hq
    have hQn : Q < pn1 := by omega
    obtain ⟨x1, x2, x3⟩ := HI.out.so.x hQn
    obtain ⟨y1, y2, y3⟩ := HI.out.so.y hP2
    have ez : (zeroAt xs (L.take k)).getD Q 0 = vAt xs (Q : Int) := zero_else (j := (Q : Int)) q0 (L.take k) xs (fun x hx => (HPin.out x (List.mem_of_mem_take hx)).1) (nodup_take HND.out hq)
    rw [ez] at x1
    rw [set_self _ _ _ hly] at y1
    have hv := vAt_bd G.out.q1 G.out.t1 (Q : Int)
    obtain ⟨hv0, hv1⟩ := hv
    have hs : sumAt xs (L.take (k + 1)) = sumAt xs (L.take k) + vAt xs (Q : Int) := by rw [take_next hq, sumAt_snoc]
    have hz : zeroAt xs (L.take (k + 1)) = (zeroAt xs (L.take k)).set Q 0 := by rw [take_next hq, zero_snoc]; rfl
    have HNew : Hid (∀ u, TkF w p s c l st sk re fe ag (P : Int) p1 p2 pn1 pc1 2 pc2 pp pq s0 b5 c5 b6 c6 ((zeroAt xs (L.take k)).set Q 0) ((ys.set P (ys.getD P 0 + sumAt xs (L.take k))).set P (ys.getD P 0 + sumAt xs (L.take k) + vAt xs (Q : Int))) u → TkF w p s c l st sk re fe ag (P : Int) p1 p2 pn1 pc1 2 pc2 pp pq s0 b5 c5 b6 c6 (zeroAt xs (L.take (k + 1))) (ys.set P (ys.getD P 0 + sumAt xs (L.take (k + 1)))) u) := Lib.hid (fun u h => by
     rw [hz, hs, ← Int.add_assoc]
     rwa [List.set_set] at h)
    have HQn := Lib.hid hQn
    have Hez := Lib.hid ez
    clear hs hz ez hq hne hca hr5
    generalize vAt xs (Q : Int) = v at *
    generalize sumAt xs (L.take k) = t at *
    generalize ys.getD P 0 = yv at *
    have HKn := Lib.hid hlt
    have hn16 : n ≤ 1000 := HLp.out
    have k0 : (0 : Int) ≤ (k : Int) := by omega
    have k1 : (k : Int) < (n : Int) := by omega
    have z0 : (0 : Int) ≤ (P : Int) := by omega
    have z1 : (P : Int) < 2 := by omega
    clear x1 x2 x3 y1 y2 y3
    go_upto_region 5 with fail
    have HI2 := Lib.hid (HI.out.below (Below.refl _ _).drew)
    have HO2 := Lib.hid (own_keep HOw.out (Below.refl _ _).drew)
    obtain ⟨x1, x2, x3⟩ := HI2.out.so.x HQn.out
    obtain ⟨y1, y2, y3⟩ := HI2.out.so.y hP2
    rw [Hez.out] at x1
    rw [set_self _ _ _ hly] at y1
    obtain ⟨_, t0, t1, t2, t3⟩ := HI2.out.so.so
    obtain ⟨⟨_, c0, c1, c2, c3, c4, c5', c6', c7, c8, c9, c10, c11, c12, c13⟩, -⟩ := HI2.out.cp
    go_still_tail 13, (by kernel_rfl)
    change wpList _ _ _ _ _ (World.drew wr)
    rw [show IntKind.i64.wrap (yv + t + v) = yv + t + v from IntWalk.i64_in _ ⟨by omega, by omega⟩]
    have HI3 := Lib.hid (HI2.out.setY hP2 (yv + t + v))
    have HO3 := Lib.hid (own_but HO2.out ((But.refl b6 wr.drew).setCell (p := ⟨b6, P, none⟩) rfl (.int .i64 (yv + t + v))) HL5.out.2)
    have d1 := HI2.out.so.d1
    have d2 := HI2.out.so.d2
    have d3 := HI2.out.so.d3
    have d3' : b6 ≠ b5 := fun e => d3 e.symm
    clear HI2 HO2 HI HOw
    generalize wr.drew = wq at *
    go_wp2_with fail
    go_roundw
    case rel => exact ⟨k + 1, HKn.out, by go_num, HNew.out _ (HI3.out.setX HQn.out 0), own_but HO3.out ((But.refl b5 _).setCell (p := ⟨b5, Q, none⟩) rfl (.int .i64 0)) HL5.out.1⟩
    case measure => (have hkn := HKn.out; simp [intOf]; omega)
   ·obtain rfl : k = n := by omega
    rw [List.take_of_length_le (show L.length ≤ k from Nat.le_of_eq Hn.out), HTX.out, HTY.out] at HI
    have k0 : ¬ (k : Int) < (k : Int) := by omega
    obtain ⟨zl, z0, z1, z2, z3, f0, f1, f2, f3⟩ := HI.out.z
    obtain ⟨_, t0, t1, t2, t3⟩ := HI.out.so.so
    have n5 := HI.out.so.o1.new
    have n6 := HI.out.so.o2.new
    have ms := HI.out.ms
    have dd1 : s0 ≠ w.heap.size + 1 := by omega
    have dd2 : w.heap.size + 1 ≠ s0 := by omega
    go_wp2_with fail
    refine bodyPost_ret (v := .agg #[.slice (some ⟨b5, 0, none⟩) pn1 c5, .slice (some ⟨b6, 0, none⟩) 2 c6, .int .i64 pp, .int .i64 pq]) (by simp [results, Tryz.results141, go_sem, z0, z1, z2, z3]) rfl ?_
    have hbt := but4 (w.heap.size + 1) wr (.slice (some ⟨b5, 0, none⟩) pn1 c5) (.slice (some ⟨b6, 0, none⟩) 2 c6) (.int .i64 pp) (.int .i64 pq)
    exact ⟨b5, c5, b6, c6, rfl, ⟨(HI.out.so.o1.but hbt (by have := HI.out.so.o1.new; omega)).lower (Nat.le_add_right _ 2), (HI.out.so.o2.but hbt (by have := HI.out.so.o2.new; omega)).lower (Nat.le_add_right _ 2), HI.out.so.d3, HI.out.so.l1, HI.out.so.l2⟩, by simpa using HI.out.l5, by simpa using HI.out.l6, HI.out.k5, HI.out.k6, OnW.set4 (show OnW w wr from HI.out.cp.be) (by omega) _ _ _ _⟩
/- LawB4 -/
def RpxAt (w : World) (p s c l : Int) (st sk re fe ag : Bool) (p1 p2 : Option Addr) (pn1 pc1 pn2 pc2 : Nat) (pp : Int) (xs ys : List Int) (d : Nat) (x1 x2 : Option Addr) (xn1 xc1 xn2 xc2 : Nat) (xp : Int) (u : World) : Prop := RuAt u w.heap.size p s c l st sk re fe ag ∧ PoAt u (w.heap.size + 1) p1 p2 pn1 pc1 pn2 pc2 pp ∧ PoAt u d x1 x2 xn1 xc1 xn2 xc2 xp ∧ PosR u x1 x2 xn1 xn2 xs ys ∧ Below w.heap.size w u
section
variable {w u v : World} {p s c l : Int} {st sk re fe ag : Bool} {p1 p2 : Option Addr} {pn1 pc1 pn2 pc2 : Nat} {pp : Int} {d : Nat} {x1 x2 : Option Addr} {xn1 xc1 xn2 xc2 : Nat} {xp : Int} {xs ys : List Int}
theorem RpxAt.below (h : RpxAt w p s c l st sk re fe ag p1 p2 pn1 pc1 pn2 pc2 pp xs ys d x1 x2 xn1 xc1 xn2 xc2 xp u) (k : Below u.heap.size u v) : RpxAt w p s c l st sk re fe ag p1 p2 pn1 pc1 pn2 pc2 pp xs ys d x1 x2 xn1 xc1 xn2 xc2 xp v := ⟨h.1.below k, h.2.1.below k, h.2.2.1.below k, h.2.2.2.1.below k, h.2.2.2.2.trans (k.mono h.2.2.2.2.size)⟩
theorem RpxAt.drew (h : RpxAt w p s c l st sk re fe ag p1 p2 pn1 pc1 pn2 pc2 pp xs ys d x1 x2 xn1 xc1 xn2 xc2 xp u) : RpxAt w p s c l st sk re fe ag p1 p2 pn1 pc1 pn2 pc2 pp xs ys d x1 x2 xn1 xc1 xn2 xc2 xp u.drew := ⟨h.1, h.2.1, h.2.2.1, h.2.2.2.1.drewN 1, h.2.2.2.2.drew⟩
end
/- Game1 -/
def GmAt (u : World) (b : Nat) (Jp Js Jc Jl : Int) (Jst Jsk Jre Jfe Jag : Bool) (Ja1 Ja2 : Option Addr) (Jan1 Jac1 Jan2 Jac2 : Nat) (Jap : Int) (Jm : Option Addr) (Jmn Jmc : Nat) (Jb1 Jb2 : Option Addr) (Jbn1 Jbc1 Jbn2 Jbc2 : Nat) (Jbp Jrg : Int) : Prop := (b < u.heap.size ∧ u.cell? ⟨b, 0, none⟩ = some (.int .i64 Jp) ∧ u.cell? ⟨b, 1, none⟩ = some (.int .i64 Js) ∧ u.cell? ⟨b, 2, none⟩ = some (.bool Jst) ∧ u.cell? ⟨b, 3, none⟩ = some (.bool Jsk) ∧ u.cell? ⟨b, 4, none⟩ = some (.bool Jre) ∧ u.cell? ⟨b, 5, none⟩ = some (.bool Jfe) ∧ u.cell? ⟨b, 6, none⟩ = some (.bool Jag) ∧ u.cell? ⟨b, 7, none⟩ = some (.int .i64 Jc) ∧ u.cell? ⟨b, 8, none⟩ = some (.int .i64 Jl) ∧ u.cell? ⟨b, 9, none⟩ = some (.slice Ja1 Jan1 Jac1) ∧ u.cell? ⟨b, 10, none⟩ = some (.slice Ja2 Jan2 Jac2) ∧ u.cell? ⟨b, 11, none⟩ = some (.int .i64 Jap) ∧ u.cell? ⟨b, 12, none⟩ = some (.slice Jm Jmn Jmc) ∧ u.cell? ⟨b, 13, none⟩ = some (.slice Jb1 Jbn1 Jbc1) ∧ u.cell? ⟨b, 14, none⟩ = some (.slice Jb2 Jbn2 Jbc2) ∧ u.cell? ⟨b, 15, none⟩ = some (.int .i64 Jbp) ∧ u.cell? ⟨b, 16, none⟩ = some (.int .i64 Jrg))
structure GamR (w : World) (a1 a2 : Option Addr) (an1 an2 : Nat) (mm : Option Addr) (mn : Nat) (b1 b2 : Option Addr) (bn1 bn2 : Nat) (sx sy ms nx ny : List Int) : Prop where
 s : PosR w a1 a2 an1 an2 sx sy
 m : RowN w mm ms
 lm : ms.length = mn
 n : PosR w b1 b2 bn1 bn2 nx ny
section
variable {u v w : World} {b z : Nat} {Jp Js Jc Jl : Int} {Jst Jsk Jre Jfe Jag : Bool} {Ja1 Ja2 : Option Addr} {Jan1 Jac1 Jan2 Jac2 : Nat} {Jap : Int} {Jm : Option Addr} {Jmn Jmc : Nat} {Jb1 Jb2 : Option Addr} {Jbn1 Jbc1 Jbn2 Jbc2 : Nat} {Jbp Jrg : Int} {sx sy ms nx ny : List Int}
theorem GmAt.below (h : GmAt u b Jp Js Jc Jl Jst Jsk Jre Jfe Jag Ja1 Ja2 Jan1 Jac1 Jan2 Jac2 Jap Jm Jmn Jmc Jb1 Jb2 Jbn1 Jbc1 Jbn2 Jbc2 Jbp Jrg) (k : Below u.heap.size u v) : GmAt v b Jp Js Jc Jl Jst Jsk Jre Jfe Jag Ja1 Ja2 Jan1 Jac1 Jan2 Jac2 Jap Jm Jmn Jmc Jb1 Jb2 Jbn1 Jbc1 Jbn2 Jbc2 Jbp Jrg := by
 obtain ⟨hb, h⟩ := h
 have e := fun o => k.cell (p := ⟨b, o, none⟩) hb
 exact ⟨Nat.lt_of_lt_of_le hb k.size, by rw [e, e, e, e, e, e, e, e, e, e, e, e, e, e, e, e, e]; exact h⟩
theorem GmAt.but (h : GmAt u b Jp Js Jc Jl Jst Jsk Jre Jfe Jag Ja1 Ja2 Jan1 Jac1 Jan2 Jac2 Jap Jm Jmn Jmc Jb1 Jb2 Jbn1 Jbc1 Jbn2 Jbc2 Jbp Jrg) (k : But z u v) (hz : b ≠ z) : GmAt v b Jp Js Jc Jl Jst Jsk Jre Jfe Jag Ja1 Ja2 Jan1 Jac1 Jan2 Jac2 Jap Jm Jmn Jmc Jb1 Jb2 Jbn1 Jbc1 Jbn2 Jbc2 Jbp Jrg := by
 obtain ⟨hb, h⟩ := h
 have e := fun o => k.cell (o := o) hb hz
 exact ⟨Nat.lt_of_lt_of_le hb k.size, by rw [e, e, e, e, e, e, e, e, e, e, e, e, e, e, e, e, e]; exact h⟩
theorem GmAt.range (h : GmAt u b Jp Js Jc Jl Jst Jsk Jre Jfe Jag Ja1 Ja2 Jan1 Jac1 Jan2 Jac2 Jap Jm Jmn Jmc Jb1 Jb2 Jbn1 Jbc1 Jbn2 Jbc2 Jbp Jrg) : u.rangeAt b 0 [.int .i64 Jp, .int .i64 Js, .bool Jst, .bool Jsk, .bool Jre, .bool Jfe, .bool Jag, .int .i64 Jc, .int .i64 Jl, .slice Ja1 Jan1 Jac1, .slice Ja2 Jan2 Jac2, .int .i64 Jap, .slice Jm Jmn Jmc, .slice Jb1 Jbn1 Jbc1, .slice Jb2 Jbn2 Jbc2, .int .i64 Jbp, .int .i64 Jrg] := by
 obtain ⟨_, m0, m1, m2, m3, m4, m5, m6, m7, m8, m9, m10, m11, m12, m13, m14, m15, m16⟩ := h
 intro j x hj
 match j, hj with
 | 0, hj => cases hj; exact m0
 | 1, hj => cases hj; exact m1
 | 2, hj => cases hj; exact m2
 | 3, hj => cases hj; exact m3
 | 4, hj => cases hj; exact m4
 | 5, hj => cases hj; exact m5
 | 6, hj => cases hj; exact m6
 | 7, hj => cases hj; exact m7
 | 8, hj => cases hj; exact m8
 | 9, hj => cases hj; exact m9
 | 10, hj => cases hj; exact m10
 | 11, hj => cases hj; exact m11
 | 12, hj => cases hj; exact m12
 | 13, hj => cases hj; exact m13
 | 14, hj => cases hj; exact m14
 | 15, hj => cases hj; exact m15
 | 16, hj => cases hj; exact m16
 | n + 17, hj => simp at hj
theorem GamR.below (h : GamR w Ja1 Ja2 Jan1 Jan2 Jm Jmn Jb1 Jb2 Jbn1 Jbn2 sx sy ms nx ny) (k : Below w.heap.size w v) : GamR v Ja1 Ja2 Jan1 Jan2 Jm Jmn Jb1 Jb2 Jbn1 Jbn2 sx sy ms nx ny :=
 ⟨h.s.below k, h.m.below k, h.lm, h.n.below k⟩
theorem GamW.toR (h : GamW w Ja1 Ja2 Jan1 Jan2 Jm Jmn Jb1 Jb2 Jbn1 Jbn2 sx sy ms nx ny) (hn : (Jan1 : Int) + Jan2 + Jmn + Jbn1 + Jbn2 ≤ 1048576) : GamR w Ja1 Ja2 Jan1 Jan2 Jm Jmn Jb1 Jb2 Jbn1 Jbn2 sx sy ms nx ny :=
 ⟨h.s.toR (by omega), h.m (by rw [h.lm]; omega), h.lm, h.n.toR (by omega)⟩
end
theorem gm_new (Jp Js Jc Jl : Int) (Jst Jsk Jre Jfe Jag : Bool) (Ja1 Ja2 : Option Addr) (Jan1 Jac1 Jan2 Jac2 : Nat) (Jap : Int) (Jm : Option Addr) (Jmn Jmc : Nat) (Jb1 Jb2 : Option Addr) (Jbn1 Jbc1 Jbn2 Jbc2 : Nat) (Jbp Jrg : Int) (w : World) (T : TypeId) : GmAt (w.alloc (.cells #[.int .i64 Jp, .int .i64 Js, .bool Jst, .bool Jsk, .bool Jre, .bool Jfe, .bool Jag, .int .i64 Jc, .int .i64 Jl, .slice Ja1 Jan1 Jac1, .slice Ja2 Jan2 Jac2, .int .i64 Jap, .slice Jm Jmn Jmc, .slice Jb1 Jbn1 Jbc1, .slice Jb2 Jbn2 Jbc2, .int .i64 Jbp, .int .i64 Jrg] T)) w.heap.size Jp Js Jc Jl Jst Jsk Jre Jfe Jag Ja1 Ja2 Jan1 Jac1 Jan2 Jac2 Jap Jm Jmn Jmc Jb1 Jb2 Jbn1 Jbc1 Jbn2 Jbc2 Jbp Jrg :=
 ⟨by simp, by go_simp, by go_simp, by go_simp, by go_simp, by go_simp, by go_simp, by go_simp, by go_simp, by go_simp, by go_simp, by go_simp, by go_simp, by go_simp, by go_simp, by go_simp, by go_simp, by go_simp⟩
structure G17 (u : World) (z : Nat) (v0 v1 v2 v3 v4 v5 v6 v7 v8 v9 v10 v11 v12 v13 v14 v15 v16 : Value) : Prop where
 lt : z < u.heap.size
 c0 : u.cell? ⟨z, 0, none⟩ = some v0
 c1 : u.cell? ⟨z, 1, none⟩ = some v1
 c2 : u.cell? ⟨z, 2, none⟩ = some v2
 c3 : u.cell? ⟨z, 3, none⟩ = some v3
 c4 : u.cell? ⟨z, 4, none⟩ = some v4
 c5 : u.cell? ⟨z, 5, none⟩ = some v5
 c6 : u.cell? ⟨z, 6, none⟩ = some v6
 c7 : u.cell? ⟨z, 7, none⟩ = some v7
 c8 : u.cell? ⟨z, 8, none⟩ = some v8
 c9 : u.cell? ⟨z, 9, none⟩ = some v9
 c10 : u.cell? ⟨z, 10, none⟩ = some v10
 c11 : u.cell? ⟨z, 11, none⟩ = some v11
 c12 : u.cell? ⟨z, 12, none⟩ = some v12
 c13 : u.cell? ⟨z, 13, none⟩ = some v13
 c14 : u.cell? ⟨z, 14, none⟩ = some v14
 c15 : u.cell? ⟨z, 15, none⟩ = some v15
 c16 : u.cell? ⟨z, 16, none⟩ = some v16
 fr : ∀ o, u.frozen? ⟨z, o, none⟩ = false
theorem G17.below {u v : World} {z : Nat} {v0 v1 v2 v3 v4 v5 v6 v7 v8 v9 v10 v11 v12 v13 v14 v15 v16 : Value} (h : G17 u z v0 v1 v2 v3 v4 v5 v6 v7 v8 v9 v10 v11 v12 v13 v14 v15 v16) (k : Below u.heap.size u v) : G17 v z v0 v1 v2 v3 v4 v5 v6 v7 v8 v9 v10 v11 v12 v13 v14 v15 v16 := by
 have e := fun o => k.cell (p := ⟨z, o, none⟩) h.lt
 exact ⟨Nat.lt_of_lt_of_le h.lt k.size, (e _).trans h.c0, (e _).trans h.c1, (e _).trans h.c2, (e _).trans h.c3, (e _).trans h.c4, (e _).trans h.c5, (e _).trans h.c6, (e _).trans h.c7, (e _).trans h.c8, (e _).trans h.c9, (e _).trans h.c10, (e _).trans h.c11, (e _).trans h.c12, (e _).trans h.c13, (e _).trans h.c14, (e _).trans h.c15, (e _).trans h.c16, fun o => (k.frozen (p := ⟨z, o, none⟩) h.lt).trans (h.fr o)⟩
theorem G17.but {u v : World} {z b : Nat} {v0 v1 v2 v3 v4 v5 v6 v7 v8 v9 v10 v11 v12 v13 v14 v15 v16 : Value} (h : G17 u z v0 v1 v2 v3 v4 v5 v6 v7 v8 v9 v10 v11 v12 v13 v14 v15 v16) (k : But b u v) (hb : z ≠ b) : G17 v z v0 v1 v2 v3 v4 v5 v6 v7 v8 v9 v10 v11 v12 v13 v14 v15 v16 := by
 have e := fun o => k.cell (o := o) h.lt hb
 exact ⟨Nat.lt_of_lt_of_le h.lt k.size, (e _).trans h.c0, (e _).trans h.c1, (e _).trans h.c2, (e _).trans h.c3, (e _).trans h.c4, (e _).trans h.c5, (e _).trans h.c6, (e _).trans h.c7, (e _).trans h.c8, (e _).trans h.c9, (e _).trans h.c10, (e _).trans h.c11, (e _).trans h.c12, (e _).trans h.c13, (e _).trans h.c14, (e _).trans h.c15, (e _).trans h.c16, fun o => (k.frozen h.lt hb).trans (h.fr o)⟩
theorem G17.there {u : World} {z : Nat} {v0 v1 v2 v3 v4 v5 v6 v7 v8 v9 v10 v11 v12 v13 v14 v15 v16 : Value} (h : G17 u z v0 v1 v2 v3 v4 v5 v6 v7 v8 v9 v10 v11 v12 v13 v14 v15 v16) : u.there z 0 17 := fun j hj => by
 match j, hj with
 | 0, _ => exact ⟨by show (u.cell? ⟨z, 0, none⟩).isSome = true; rw [h.c0]; rfl, h.fr 0⟩
 | 1, _ => exact ⟨by show (u.cell? ⟨z, 1, none⟩).isSome = true; rw [h.c1]; rfl, h.fr 1⟩
 | 2, _ => exact ⟨by show (u.cell? ⟨z, 2, none⟩).isSome = true; rw [h.c2]; rfl, h.fr 2⟩
 | 3, _ => exact ⟨by show (u.cell? ⟨z, 3, none⟩).isSome = true; rw [h.c3]; rfl, h.fr 3⟩
 | 4, _ => exact ⟨by show (u.cell? ⟨z, 4, none⟩).isSome = true; rw [h.c4]; rfl, h.fr 4⟩
 | 5, _ => exact ⟨by show (u.cell? ⟨z, 5, none⟩).isSome = true; rw [h.c5]; rfl, h.fr 5⟩
 | 6, _ => exact ⟨by show (u.cell? ⟨z, 6, none⟩).isSome = true; rw [h.c6]; rfl, h.fr 6⟩
 | 7, _ => exact ⟨by show (u.cell? ⟨z, 7, none⟩).isSome = true; rw [h.c7]; rfl, h.fr 7⟩
 | 8, _ => exact ⟨by show (u.cell? ⟨z, 8, none⟩).isSome = true; rw [h.c8]; rfl, h.fr 8⟩
 | 9, _ => exact ⟨by show (u.cell? ⟨z, 9, none⟩).isSome = true; rw [h.c9]; rfl, h.fr 9⟩
 | 10, _ => exact ⟨by show (u.cell? ⟨z, 10, none⟩).isSome = true; rw [h.c10]; rfl, h.fr 10⟩
 | 11, _ => exact ⟨by show (u.cell? ⟨z, 11, none⟩).isSome = true; rw [h.c11]; rfl, h.fr 11⟩
 | 12, _ => exact ⟨by show (u.cell? ⟨z, 12, none⟩).isSome = true; rw [h.c12]; rfl, h.fr 12⟩
 | 13, _ => exact ⟨by show (u.cell? ⟨z, 13, none⟩).isSome = true; rw [h.c13]; rfl, h.fr 13⟩
 | 14, _ => exact ⟨by show (u.cell? ⟨z, 14, none⟩).isSome = true; rw [h.c14]; rfl, h.fr 14⟩
 | 15, _ => exact ⟨by show (u.cell? ⟨z, 15, none⟩).isSome = true; rw [h.c15]; rfl, h.fr 15⟩
 | 16, _ => exact ⟨by show (u.cell? ⟨z, 16, none⟩).isSome = true; rw [h.c16]; rfl, h.fr 16⟩
 | n + 17, h => exact absurd h (by omega)
theorem g17_new (w : World) (T : TypeId) : G17 (w.alloc (.cells #[.int .i64 0, .int .i64 0, .bool false, .bool false, .bool false, .bool false, .bool false, .int .i64 0, .int .i64 0, .slice none 0 0, .slice none 0 0, .int .i64 0, .slice none 0 0, .slice none 0 0, .slice none 0 0, .int .i64 0, .int .i64 0] T)) w.heap.size (.int .i64 0) (.int .i64 0) (.bool false) (.bool false) (.bool false) (.bool false) (.bool false) (.int .i64 0) (.int .i64 0) (.slice none 0 0) (.slice none 0 0) (.int .i64 0) (.slice none 0 0) (.slice none 0 0) (.slice none 0 0) (.int .i64 0) (.int .i64 0) :=
 ⟨by simp, by go_simp, by go_simp, by go_simp, by go_simp, by go_simp, by go_simp, by go_simp, by go_simp, by go_simp, by go_simp, by go_simp, by go_simp, by go_simp, by go_simp, by go_simp, by go_simp, by go_simp, fun o => by go_simp⟩
theorem G17.setR {u : World} {z : Nat} {v0 v1 v2 v3 v4 v5 v6 v7 v8 v9 v10 v11 v12 v13 v14 v15 v16 : Value} (h : G17 u z v0 v1 v2 v3 v4 v5 v6 v7 v8 v9 v10 v11 v12 v13 v14 v15 v16) (x0 x1 x2 x3 x4 x5 x6 x7 x8 : Value) : G17 (((((((((u.setCell ⟨z, 0, none⟩ x0).setCell ⟨z, 1, none⟩ x1).setCell ⟨z, 2, none⟩ x2).setCell ⟨z, 3, none⟩ x3).setCell ⟨z, 4, none⟩ x4).setCell ⟨z, 5, none⟩ x5).setCell ⟨z, 6, none⟩ x6).setCell ⟨z, 7, none⟩ x7).setCell ⟨z, 8, none⟩ x8) z x0 x1 x2 x3 x4 x5 x6 x7 x8 v9 v10 v11 v12 v13 v14 v15 v16 := by
 obtain ⟨zl, z0, z1, z2, z3, z4, z5, z6, z7, z8, z9, z10, z11, z12, z13, z14, z15, z16, zf⟩ := h
 have f0 := zf 0
 have f1 := zf 1
 have f2 := zf 2
 have f3 := zf 3
 have f4 := zf 4
 have f5 := zf 5
 have f6 := zf 6
 have f7 := zf 7
 have f8 := zf 8
 exact ⟨by simpa using zl, by go_simp, by go_simp, by go_simp, by go_simp, by go_simp, by go_simp, by go_simp, by go_simp, by go_simp, by go_simp, by go_simp, by go_simp, by go_simp, by go_simp, by go_simp, by go_simp, by go_simp, fun o => by have := zf o; go_simp⟩
theorem but_setR (z : Nat) (u : World) (x0 x1 x2 x3 x4 x5 x6 x7 x8 : Value) : But z u (((((((((u.setCell ⟨z, 0, none⟩ x0).setCell ⟨z, 1, none⟩ x1).setCell ⟨z, 2, none⟩ x2).setCell ⟨z, 3, none⟩ x3).setCell ⟨z, 4, none⟩ x4).setCell ⟨z, 5, none⟩ x5).setCell ⟨z, 6, none⟩ x6).setCell ⟨z, 7, none⟩ x7).setCell ⟨z, 8, none⟩ x8) := (((((((((But.refl z u).setCell (p := ⟨z, 0, none⟩) rfl x0).setCell (p := ⟨z, 1, none⟩) rfl x1).setCell (p := ⟨z, 2, none⟩) rfl x2).setCell (p := ⟨z, 3, none⟩) rfl x3).setCell (p := ⟨z, 4, none⟩) rfl x4).setCell (p := ⟨z, 5, none⟩) rfl x5).setCell (p := ⟨z, 6, none⟩) rfl x6).setCell (p := ⟨z, 7, none⟩) rfl x7).setCell (p := ⟨z, 8, none⟩) rfl x8
theorem G17.setS {u : World} {z : Nat} {v0 v1 v2 v3 v4 v5 v6 v7 v8 v9 v10 v11 v12 v13 v14 v15 v16 : Value} (h : G17 u z v0 v1 v2 v3 v4 v5 v6 v7 v8 v9 v10 v11 v12 v13 v14 v15 v16) (x9 x10 x11 : Value) : G17 (((u.setCell ⟨z, 9, none⟩ x9).setCell ⟨z, 10, none⟩ x10).setCell ⟨z, 11, none⟩ x11) z v0 v1 v2 v3 v4 v5 v6 v7 v8 x9 x10 x11 v12 v13 v14 v15 v16 := by
 obtain ⟨zl, z0, z1, z2, z3, z4, z5, z6, z7, z8, z9, z10, z11, z12, z13, z14, z15, z16, zf⟩ := h
 have f9 := zf 9
 have f10 := zf 10
 have f11 := zf 11
 exact ⟨by simpa using zl, by go_simp, by go_simp, by go_simp, by go_simp, by go_simp, by go_simp, by go_simp, by go_simp, by go_simp, by go_simp, by go_simp, by go_simp, by go_simp, by go_simp, by go_simp, by go_simp, by go_simp, fun o => by have := zf o; go_simp⟩
theorem but_setS (z : Nat) (u : World) (x9 x10 x11 : Value) : But z u (((u.setCell ⟨z, 9, none⟩ x9).setCell ⟨z, 10, none⟩ x10).setCell ⟨z, 11, none⟩ x11) := (((But.refl z u).setCell (p := ⟨z, 9, none⟩) rfl x9).setCell (p := ⟨z, 10, none⟩) rfl x10).setCell (p := ⟨z, 11, none⟩) rfl x11
theorem G17.setM {u : World} {z : Nat} {v0 v1 v2 v3 v4 v5 v6 v7 v8 v9 v10 v11 v12 v13 v14 v15 v16 : Value} (h : G17 u z v0 v1 v2 v3 v4 v5 v6 v7 v8 v9 v10 v11 v12 v13 v14 v15 v16) (x12 : Value) : G17 (u.setCell ⟨z, 12, none⟩ x12) z v0 v1 v2 v3 v4 v5 v6 v7 v8 v9 v10 v11 x12 v13 v14 v15 v16 := by
 obtain ⟨zl, z0, z1, z2, z3, z4, z5, z6, z7, z8, z9, z10, z11, z12, z13, z14, z15, z16, zf⟩ := h
 have f12 := zf 12
 exact ⟨by simpa using zl, by go_simp, by go_simp, by go_simp, by go_simp, by go_simp, by go_simp, by go_simp, by go_simp, by go_simp, by go_simp, by go_simp, by go_simp, by go_simp, by go_simp, by go_simp, by go_simp, by go_simp, fun o => by have := zf o; go_simp⟩
theorem but_setM (z : Nat) (u : World) (x12 : Value) : But z u (u.setCell ⟨z, 12, none⟩ x12) := (But.refl z u).setCell (p := ⟨z, 12, none⟩) rfl x12
theorem G17.setN {u : World} {z : Nat} {v0 v1 v2 v3 v4 v5 v6 v7 v8 v9 v10 v11 v12 v13 v14 v15 v16 : Value} (h : G17 u z v0 v1 v2 v3 v4 v5 v6 v7 v8 v9 v10 v11 v12 v13 v14 v15 v16) (x13 x14 x15 : Value) : G17 (((u.setCell ⟨z, 13, none⟩ x13).setCell ⟨z, 14, none⟩ x14).setCell ⟨z, 15, none⟩ x15) z v0 v1 v2 v3 v4 v5 v6 v7 v8 v9 v10 v11 v12 x13 x14 x15 v16 := by
 obtain ⟨zl, z0, z1, z2, z3, z4, z5, z6, z7, z8, z9, z10, z11, z12, z13, z14, z15, z16, zf⟩ := h
 have f13 := zf 13
 have f14 := zf 14
 have f15 := zf 15
 exact ⟨by simpa using zl, by go_simp, by go_simp, by go_simp, by go_simp, by go_simp, by go_simp, by go_simp, by go_simp, by go_simp, by go_simp, by go_simp, by go_simp, by go_simp, by go_simp, by go_simp, by go_simp, by go_simp, fun o => by have := zf o; go_simp⟩
theorem but_setN (z : Nat) (u : World) (x13 x14 x15 : Value) : But z u (((u.setCell ⟨z, 13, none⟩ x13).setCell ⟨z, 14, none⟩ x14).setCell ⟨z, 15, none⟩ x15) := (((But.refl z u).setCell (p := ⟨z, 13, none⟩) rfl x13).setCell (p := ⟨z, 14, none⟩) rfl x14).setCell (p := ⟨z, 15, none⟩) rfl x15
theorem G17.setG {u : World} {z : Nat} {v0 v1 v2 v3 v4 v5 v6 v7 v8 v9 v10 v11 v12 v13 v14 v15 v16 : Value} (h : G17 u z v0 v1 v2 v3 v4 v5 v6 v7 v8 v9 v10 v11 v12 v13 v14 v15 v16) (x16 : Value) : G17 (u.setCell ⟨z, 16, none⟩ x16) z v0 v1 v2 v3 v4 v5 v6 v7 v8 v9 v10 v11 v12 v13 v14 v15 x16 := by
 obtain ⟨zl, z0, z1, z2, z3, z4, z5, z6, z7, z8, z9, z10, z11, z12, z13, z14, z15, z16, zf⟩ := h
 have f16 := zf 16
 exact ⟨by simpa using zl, by go_simp, by go_simp, by go_simp, by go_simp, by go_simp, by go_simp, by go_simp, by go_simp, by go_simp, by go_simp, by go_simp, by go_simp, by go_simp, by go_simp, by go_simp, by go_simp, by go_simp, fun o => by have := zf o; go_simp⟩
theorem but_setG (z : Nat) (u : World) (x16 : Value) : But z u (u.setCell ⟨z, 16, none⟩ x16) := (But.refl z u).setCell (p := ⟨z, 16, none⟩) rfl x16
/- Game2 -/
structure GamO (w : World) (B : Nat) (a1 a2 : Option Addr) (k1 k2 an1 an2 : Nat) (mm : Option Addr) (k3 mn : Nat) (b1 b2 : Option Addr) (k4 k5 bn1 bn2 : Nat) (sx sy ms nx ny : List Int) : Prop where
 s : PosO w B a1 a2 k1 k2 an1 an2 sx sy
 m : OutN w B mm k3 ms
 lm : ms.length = mn
 n : PosO w B b1 b2 k4 k5 bn1 bn2 nx ny
theorem GamO.r {w : World} {B : Nat} {a1 a2 : Option Addr} {k1 k2 an1 an2 : Nat} {mm : Option Addr} {k3 mn : Nat} {b1 b2 : Option Addr} {k4 k5 bn1 bn2 : Nat} {sx sy ms nx ny : List Int} (h : GamO w B a1 a2 k1 k2 an1 an2 mm k3 mn b1 b2 k4 k5 bn1 bn2 sx sy ms nx ny) : GamR w a1 a2 an1 an2 mm mn b1 b2 bn1 bn2 sx sy ms nx ny :=
 ⟨h.s.r, h.m.row, h.lm, h.n.r⟩
theorem GamO.below {w v : World} {B : Nat} {a1 a2 : Option Addr} {k1 k2 an1 an2 : Nat} {mm : Option Addr} {k3 mn : Nat} {b1 b2 : Option Addr} {k4 k5 bn1 bn2 : Nat} {sx sy ms nx ny : List Int} (h : GamO w B a1 a2 k1 k2 an1 an2 mm k3 mn b1 b2 k4 k5 bn1 bn2 sx sy ms nx ny) (k : Below w.heap.size w v) : GamO v B a1 a2 k1 k2 an1 an2 mm k3 mn b1 b2 k4 k5 bn1 bn2 sx sy ms nx ny :=
 ⟨h.s.below k, h.m.below k, h.lm, h.n.below k⟩
def GamP (p s c l : Int) (st sk re fe ag : Bool) (an1 an2 : Nat) (ap : Int) (mn bn1 bn2 : Nat) (bp rg : Int) (sx sy ms nx ny : List Int) (w : World) (e : Ending) (w' : World) : Prop :=
 ∃ g1 g2 g3 g4 g5, e = .returned (.agg #[.int .i64 p, .int .i64 s, .bool st, .bool sk, .bool re, .bool fe, .bool ag, .int .i64 c, .int .i64 l, .slice (some ⟨g1, 0, none⟩) an1 an1, .slice (some ⟨g2, 0, none⟩) an2 an2, .int .i64 ap, .slice (some ⟨g3, 0, none⟩) mn mn, .slice (some ⟨g4, 0, none⟩) bn1 bn1, .slice (some ⟨g5, 0, none⟩) bn2 bn2, .int .i64 bp, .int .i64 rg]) ∧ GamO w' w.heap.size (some ⟨g1, 0, none⟩) (some ⟨g2, 0, none⟩) g1 g2 an1 an2 (some ⟨g3, 0, none⟩) g3 mn (some ⟨g4, 0, none⟩) (some ⟨g5, 0, none⟩) g4 g5 bn1 bn2 sx sy ms nx ny ∧ (g1 < w'.heap.size ∧ g2 < w'.heap.size ∧ g3 < w'.heap.size ∧ g4 < w'.heap.size ∧ g5 < w'.heap.size) ∧ Below w.heap.size w w'
structure TGm (w u : World) (Jp Js Jc Jl : Int) (Jst Jsk Jre Jfe Jag : Bool) (Ja1 Ja2 : Option Addr) (Jan1 Jac1 Jan2 Jac2 : Nat) (Jap : Int) (Jm : Option Addr) (Jmn Jmc : Nat) (Jb1 Jb2 : Option Addr) (Jbn1 Jbc1 Jbn2 Jbc2 : Nat) (Jbp Jrg : Int) (v0 v1 v2 v3 v4 v5 v6 v7 v8 v9 v10 v11 v12 v13 v14 v15 v16 : Value) : Prop where
 a : GmAt u w.heap.size Jp Js Jc Jl Jst Jsk Jre Jfe Jag Ja1 Ja2 Jan1 Jac1 Jan2 Jac2 Jap Jm Jmn Jmc Jb1 Jb2 Jbn1 Jbc1 Jbn2 Jbc2 Jbp Jrg
 r : G17 u (w.heap.size + 1) (.int .i64 0) (.int .i64 0) (.bool false) (.bool false) (.bool false) (.bool false) (.bool false) (.int .i64 0) (.int .i64 0) (.slice none 0 0) (.slice none 0 0) (.int .i64 0) (.slice none 0 0) (.slice none 0 0) (.slice none 0 0) (.int .i64 0) (.int .i64 0)
 z : G17 u (w.heap.size + 1 + 1) v0 v1 v2 v3 v4 v5 v6 v7 v8 v9 v10 v11 v12 v13 v14 v15 v16
 b : Below w.heap.size w u
section
variable {w u v : World} {b : Nat} {Jp Js Jc Jl : Int} {Jst Jsk Jre Jfe Jag : Bool} {Ja1 Ja2 : Option Addr} {Jan1 Jac1 Jan2 Jac2 : Nat} {Jap : Int} {Jm : Option Addr} {Jmn Jmc : Nat} {Jb1 Jb2 : Option Addr} {Jbn1 Jbc1 Jbn2 Jbc2 : Nat} {Jbp Jrg : Int} {v0 v1 v2 v3 v4 v5 v6 v7 v8 v9 v10 v11 v12 v13 v14 v15 v16 : Value}
theorem TGm.below (h : TGm w u Jp Js Jc Jl Jst Jsk Jre Jfe Jag Ja1 Ja2 Jan1 Jac1 Jan2 Jac2 Jap Jm Jmn Jmc Jb1 Jb2 Jbn1 Jbc1 Jbn2 Jbc2 Jbp Jrg v0 v1 v2 v3 v4 v5 v6 v7 v8 v9 v10 v11 v12 v13 v14 v15 v16) (k : Below u.heap.size u v) : TGm w v Jp Js Jc Jl Jst Jsk Jre Jfe Jag Ja1 Ja2 Jan1 Jac1 Jan2 Jac2 Jap Jm Jmn Jmc Jb1 Jb2 Jbn1 Jbc1 Jbn2 Jbc2 Jbp Jrg v0 v1 v2 v3 v4 v5 v6 v7 v8 v9 v10 v11 v12 v13 v14 v15 v16 :=
 ⟨h.a.below k, h.r.below k, h.z.below k, h.b.trans (k.mono h.b.size)⟩
theorem TGm.setR (h : TGm w u Jp Js Jc Jl Jst Jsk Jre Jfe Jag Ja1 Ja2 Jan1 Jac1 Jan2 Jac2 Jap Jm Jmn Jmc Jb1 Jb2 Jbn1 Jbc1 Jbn2 Jbc2 Jbp Jrg v0 v1 v2 v3 v4 v5 v6 v7 v8 v9 v10 v11 v12 v13 v14 v15 v16) (x0 x1 x2 x3 x4 x5 x6 x7 x8 : Value) : TGm w (((((((((u.setCell ⟨w.heap.size + 1 + 1, 0, none⟩ x0).setCell ⟨w.heap.size + 1 + 1, 1, none⟩ x1).setCell ⟨w.heap.size + 1 + 1, 2, none⟩ x2).setCell ⟨w.heap.size + 1 + 1, 3, none⟩ x3).setCell ⟨w.heap.size + 1 + 1, 4, none⟩ x4).setCell ⟨w.heap.size + 1 + 1, 5, none⟩ x5).setCell ⟨w.heap.size + 1 + 1, 6, none⟩ x6).setCell ⟨w.heap.size + 1 + 1, 7, none⟩ x7).setCell ⟨w.heap.size + 1 + 1, 8, none⟩ x8) Jp Js Jc Jl Jst Jsk Jre Jfe Jag Ja1 Ja2 Jan1 Jac1 Jan2 Jac2 Jap Jm Jmn Jmc Jb1 Jb2 Jbn1 Jbc1 Jbn2 Jbc2 Jbp Jrg x0 x1 x2 x3 x4 x5 x6 x7 x8 v9 v10 v11 v12 v13 v14 v15 v16 :=
 have k := but_setR (w.heap.size + 1 + 1) u x0 x1 x2 x3 x4 x5 x6 x7 x8
 ⟨h.a.but k (by omega), h.r.but k (by omega), h.z.setR x0 x1 x2 x3 x4 x5 x6 x7 x8, But.below h.b k (by omega) h.b.size⟩
theorem TGm.setS (h : TGm w u Jp Js Jc Jl Jst Jsk Jre Jfe Jag Ja1 Ja2 Jan1 Jac1 Jan2 Jac2 Jap Jm Jmn Jmc Jb1 Jb2 Jbn1 Jbc1 Jbn2 Jbc2 Jbp Jrg v0 v1 v2 v3 v4 v5 v6 v7 v8 v9 v10 v11 v12 v13 v14 v15 v16) (x9 x10 x11 : Value) : TGm w (((u.setCell ⟨w.heap.size + 1 + 1, 9, none⟩ x9).setCell ⟨w.heap.size + 1 + 1, 10, none⟩ x10).setCell ⟨w.heap.size + 1 + 1, 11, none⟩ x11) Jp Js Jc Jl Jst Jsk Jre Jfe Jag Ja1 Ja2 Jan1 Jac1 Jan2 Jac2 Jap Jm Jmn Jmc Jb1 Jb2 Jbn1 Jbc1 Jbn2 Jbc2 Jbp Jrg v0 v1 v2 v3 v4 v5 v6 v7 v8 x9 x10 x11 v12 v13 v14 v15 v16 :=
 have k := but_setS (w.heap.size + 1 + 1) u x9 x10 x11
 ⟨h.a.but k (by omega), h.r.but k (by omega), h.z.setS x9 x10 x11, But.below h.b k (by omega) h.b.size⟩
theorem TGm.setM (h : TGm w u Jp Js Jc Jl Jst Jsk Jre Jfe Jag Ja1 Ja2 Jan1 Jac1 Jan2 Jac2 Jap Jm Jmn Jmc Jb1 Jb2 Jbn1 Jbc1 Jbn2 Jbc2 Jbp Jrg v0 v1 v2 v3 v4 v5 v6 v7 v8 v9 v10 v11 v12 v13 v14 v15 v16) (x12 : Value) : TGm w (u.setCell ⟨w.heap.size + 1 + 1, 12, none⟩ x12) Jp Js Jc Jl Jst Jsk Jre Jfe Jag Ja1 Ja2 Jan1 Jac1 Jan2 Jac2 Jap Jm Jmn Jmc Jb1 Jb2 Jbn1 Jbc1 Jbn2 Jbc2 Jbp Jrg v0 v1 v2 v3 v4 v5 v6 v7 v8 v9 v10 v11 x12 v13 v14 v15 v16 :=
 have k := but_setM (w.heap.size + 1 + 1) u x12
 ⟨h.a.but k (by omega), h.r.but k (by omega), h.z.setM x12, But.below h.b k (by omega) h.b.size⟩
theorem TGm.setN (h : TGm w u Jp Js Jc Jl Jst Jsk Jre Jfe Jag Ja1 Ja2 Jan1 Jac1 Jan2 Jac2 Jap Jm Jmn Jmc Jb1 Jb2 Jbn1 Jbc1 Jbn2 Jbc2 Jbp Jrg v0 v1 v2 v3 v4 v5 v6 v7 v8 v9 v10 v11 v12 v13 v14 v15 v16) (x13 x14 x15 : Value) : TGm w (((u.setCell ⟨w.heap.size + 1 + 1, 13, none⟩ x13).setCell ⟨w.heap.size + 1 + 1, 14, none⟩ x14).setCell ⟨w.heap.size + 1 + 1, 15, none⟩ x15) Jp Js Jc Jl Jst Jsk Jre Jfe Jag Ja1 Ja2 Jan1 Jac1 Jan2 Jac2 Jap Jm Jmn Jmc Jb1 Jb2 Jbn1 Jbc1 Jbn2 Jbc2 Jbp Jrg v0 v1 v2 v3 v4 v5 v6 v7 v8 v9 v10 v11 v12 x13 x14 x15 v16 :=
 have k := but_setN (w.heap.size + 1 + 1) u x13 x14 x15
 ⟨h.a.but k (by omega), h.r.but k (by omega), h.z.setN x13 x14 x15, But.below h.b k (by omega) h.b.size⟩
theorem TGm.setG (h : TGm w u Jp Js Jc Jl Jst Jsk Jre Jfe Jag Ja1 Ja2 Jan1 Jac1 Jan2 Jac2 Jap Jm Jmn Jmc Jb1 Jb2 Jbn1 Jbc1 Jbn2 Jbc2 Jbp Jrg v0 v1 v2 v3 v4 v5 v6 v7 v8 v9 v10 v11 v12 v13 v14 v15 v16) (x16 : Value) : TGm w (u.setCell ⟨w.heap.size + 1 + 1, 16, none⟩ x16) Jp Js Jc Jl Jst Jsk Jre Jfe Jag Ja1 Ja2 Jan1 Jac1 Jan2 Jac2 Jap Jm Jmn Jmc Jb1 Jb2 Jbn1 Jbc1 Jbn2 Jbc2 Jbp Jrg v0 v1 v2 v3 v4 v5 v6 v7 v8 v9 v10 v11 v12 v13 v14 v15 x16 :=
 have k := but_setG (w.heap.size + 1 + 1) u x16
 ⟨h.a.but k (by omega), h.r.but k (by omega), h.z.setG x16, But.below h.b k (by omega) h.b.size⟩
theorem TGm.rg (h : G17 u b v0 v1 v2 v3 v4 v5 v6 v7 v8 v9 v10 v11 v12 v13 v14 v15 v16) : u.rangeAt b 0 [v0, v1, v2, v3, v4, v5, v6, v7, v8, v9, v10, v11, v12, v13, v14, v15, v16] := by
 intro j x hj
 match j, hj with
 | 0, hj => cases hj; exact h.c0
 | 1, hj => cases hj; exact h.c1
 | 2, hj => cases hj; exact h.c2
 | 3, hj => cases hj; exact h.c3
 | 4, hj => cases hj; exact h.c4
 | 5, hj => cases hj; exact h.c5
 | 6, hj => cases hj; exact h.c6
 | 7, hj => cases hj; exact h.c7
 | 8, hj => cases hj; exact h.c8
 | 9, hj => cases hj; exact h.c9
 | 10, hj => cases hj; exact h.c10
 | 11, hj => cases hj; exact h.c11
 | 12, hj => cases hj; exact h.c12
 | 13, hj => cases hj; exact h.c13
 | 14, hj => cases hj; exact h.c14
 | 15, hj => cases hj; exact h.c15
 | 16, hj => cases hj; exact h.c16
 | n + 17, hj => simp at hj
end
theorem tgm_new (Jp Js Jc Jl : Int) (Jst Jsk Jre Jfe Jag : Bool) (Ja1 Ja2 : Option Addr) (Jan1 Jac1 Jan2 Jac2 : Nat) (Jap : Int) (Jm : Option Addr) (Jmn Jmc : Nat) (Jb1 Jb2 : Option Addr) (Jbn1 Jbc1 Jbn2 Jbc2 : Nat) (Jbp Jrg : Int) (w : World) (T U : TypeId) : TGm w (((w.alloc (.cells #[.int .i64 Jp, .int .i64 Js, .bool Jst, .bool Jsk, .bool Jre, .bool Jfe, .bool Jag, .int .i64 Jc, .int .i64 Jl, .slice Ja1 Jan1 Jac1, .slice Ja2 Jan2 Jac2, .int .i64 Jap, .slice Jm Jmn Jmc, .slice Jb1 Jbn1 Jbc1, .slice Jb2 Jbn2 Jbc2, .int .i64 Jbp, .int .i64 Jrg] T)).alloc (.cells #[.int .i64 0, .int .i64 0, .bool false, .bool false, .bool false, .bool false, .bool false, .int .i64 0, .int .i64 0, .slice none 0 0, .slice none 0 0, .int .i64 0, .slice none 0 0, .slice none 0 0, .slice none 0 0, .int .i64 0, .int .i64 0] U)).alloc (.cells #[.int .i64 0, .int .i64 0, .bool false, .bool false, .bool false, .bool false, .bool false, .int .i64 0, .int .i64 0, .slice none 0 0, .slice none 0 0, .int .i64 0, .slice none 0 0, .slice none 0 0, .slice none 0 0, .int .i64 0, .int .i64 0] U)) Jp Js Jc Jl Jst Jsk Jre Jfe Jag Ja1 Ja2 Jan1 Jac1 Jan2 Jac2 Jap Jm Jmn Jmc Jb1 Jb2 Jbn1 Jbc1 Jbn2 Jbc2 Jbp Jrg (.int .i64 0) (.int .i64 0) (.bool false) (.bool false) (.bool false) (.bool false) (.bool false) (.int .i64 0) (.int .i64 0) (.slice none 0 0) (.slice none 0 0) (.int .i64 0) (.slice none 0 0) (.slice none 0 0) (.slice none 0 0) (.int .i64 0) (.int .i64 0) := by
 have k1 := al2 (w.alloc (.cells #[.int .i64 Jp, .int .i64 Js, .bool Jst, .bool Jsk, .bool Jre, .bool Jfe, .bool Jag, .int .i64 Jc, .int .i64 Jl, .slice Ja1 Jan1 Jac1, .slice Ja2 Jan2 Jac2, .int .i64 Jap, .slice Jm Jmn Jmc, .slice Jb1 Jbn1 Jbc1, .slice Jb2 Jbn2 Jbc2, .int .i64 Jbp, .int .i64 Jrg] T)) (.cells #[.int .i64 0, .int .i64 0, .bool false, .bool false, .bool false, .bool false, .bool false, .int .i64 0, .int .i64 0, .slice none 0 0, .slice none 0 0, .int .i64 0, .slice none 0 0, .slice none 0 0, .slice none 0 0, .int .i64 0, .int .i64 0] U) (.cells #[.int .i64 0, .int .i64 0, .bool false, .bool false, .bool false, .bool false, .bool false, .int .i64 0, .int .i64 0, .slice none 0 0, .slice none 0 0, .int .i64 0, .slice none 0 0, .slice none 0 0, .slice none 0 0, .int .i64 0, .int .i64 0] U)
 have k2 := al1 ((w.alloc (.cells #[.int .i64 Jp, .int .i64 Js, .bool Jst, .bool Jsk, .bool Jre, .bool Jfe, .bool Jag, .int .i64 Jc, .int .i64 Jl, .slice Ja1 Jan1 Jac1, .slice Ja2 Jan2 Jac2, .int .i64 Jap, .slice Jm Jmn Jmc, .slice Jb1 Jbn1 Jbc1, .slice Jb2 Jbn2 Jbc2, .int .i64 Jbp, .int .i64 Jrg] T)).alloc (.cells #[.int .i64 0, .int .i64 0, .bool false, .bool false, .bool false, .bool false, .bool false, .int .i64 0, .int .i64 0, .slice none 0 0, .slice none 0 0, .int .i64 0, .slice none 0 0, .slice none 0 0, .slice none 0 0, .int .i64 0, .int .i64 0] U)) (.cells #[.int .i64 0, .int .i64 0, .bool false, .bool false, .bool false, .bool false, .bool false, .int .i64 0, .int .i64 0, .slice none 0 0, .slice none 0 0, .int .i64 0, .slice none 0 0, .slice none 0 0, .slice none 0 0, .int .i64 0, .int .i64 0] U)
 have r := (g17_new (w.alloc (.cells #[.int .i64 Jp, .int .i64 Js, .bool Jst, .bool Jsk, .bool Jre, .bool Jfe, .bool Jag, .int .i64 Jc, .int .i64 Jl, .slice Ja1 Jan1 Jac1, .slice Ja2 Jan2 Jac2, .int .i64 Jap, .slice Jm Jmn Jmc, .slice Jb1 Jbn1 Jbc1, .slice Jb2 Jbn2 Jbc2, .int .i64 Jbp, .int .i64 Jrg] T)) U).below k2
 have z := g17_new ((w.alloc (.cells #[.int .i64 Jp, .int .i64 Js, .bool Jst, .bool Jsk, .bool Jre, .bool Jfe, .bool Jag, .int .i64 Jc, .int .i64 Jl, .slice Ja1 Jan1 Jac1, .slice Ja2 Jan2 Jac2, .int .i64 Jap, .slice Jm Jmn Jmc, .slice Jb1 Jbn1 Jbc1, .slice Jb2 Jbn2 Jbc2, .int .i64 Jbp, .int .i64 Jrg] T)).alloc (.cells #[.int .i64 0, .int .i64 0, .bool false, .bool false, .bool false, .bool false, .bool false, .int .i64 0, .int .i64 0, .slice none 0 0, .slice none 0 0, .int .i64 0, .slice none 0 0, .slice none 0 0, .slice none 0 0, .int .i64 0, .int .i64 0] U)) U
 rw [show (w.alloc (.cells #[.int .i64 Jp, .int .i64 Js, .bool Jst, .bool Jsk, .bool Jre, .bool Jfe, .bool Jag, .int .i64 Jc, .int .i64 Jl, .slice Ja1 Jan1 Jac1, .slice Ja2 Jan2 Jac2, .int .i64 Jap, .slice Jm Jmn Jmc, .slice Jb1 Jbn1 Jbc1, .slice Jb2 Jbn2 Jbc2, .int .i64 Jbp, .int .i64 Jrg] T)).heap.size = w.heap.size + 1 by simp] at r
 rw [show ((w.alloc (.cells #[.int .i64 Jp, .int .i64 Js, .bool Jst, .bool Jsk, .bool Jre, .bool Jfe, .bool Jag, .int .i64 Jc, .int .i64 Jl, .slice Ja1 Jan1 Jac1, .slice Ja2 Jan2 Jac2, .int .i64 Jap, .slice Jm Jmn Jmc, .slice Jb1 Jbn1 Jbc1, .slice Jb2 Jbn2 Jbc2, .int .i64 Jbp, .int .i64 Jrg] T)).alloc (.cells #[.int .i64 0, .int .i64 0, .bool false, .bool false, .bool false, .bool false, .bool false, .int .i64 0, .int .i64 0, .slice none 0 0, .slice none 0 0, .int .i64 0, .slice none 0 0, .slice none 0 0, .slice none 0 0, .int .i64 0, .int .i64 0] U)).heap.size = w.heap.size + 1 + 1 by simp] at z
 exact ⟨(gm_new Jp Js Jc Jl Jst Jsk Jre Jfe Jag Ja1 Ja2 Jan1 Jac1 Jan2 Jac2 Jap Jm Jmn Jmc Jb1 Jb2 Jbn1 Jbc1 Jbn2 Jbc2 Jbp Jrg w T).below k1, r, z, (al1 w _).trans (k1.mono (by simp))⟩
theorem below_scg {B : Nat} {a : World} (b : Nat) (hb : B ≤ b) : ∀ (vs : List Value) (o : Nat) {w : World}, Below B a w → Below B a (w.setCells b o vs)
 | [], _, _, h => h
 | v :: r, o, _, h => below_scg b hb r (o + 1) (h.setCell (p := ⟨b, o, none⟩) hb v)
theorem but_scg {a : World} (b : Nat) : ∀ (vs : List Value) (o : Nat) {w : World}, But b a w → But b a (w.setCells b o vs)
 | [], _, _, h => h
 | v :: r, o, _, h => but_scg b r (o + 1) (h.setCell (p := ⟨b, o, none⟩) rfl v)
theorem size_scg (b : Nat) : ∀ (vs : List Value) (o : Nat) (u : World), (u.setCells b o vs).heap.size = u.heap.size
 | [], _, _ => rfl
 | v :: r, o, u => by rw [World.setCells, size_scg b r]; simp
theorem gm_one (p s c l ap bp rg : Int) (st sk re fe ag : Bool) (m1 m2 m3 m4 m5 : Option Addr) (n1 c1 n2 c2 n3 c3 n4 c4 n5 c5 : Nat) : (List.toArray ([.int .i64 p, .int .i64 s, .bool st, .bool sk, .bool re, .bool fe, .bool ag, .int .i64 c, .int .i64 l, .slice m1 n1 c1, .slice m2 n2 c2, .int .i64 ap, .slice m3 n3 c3, .slice m4 n4 c4, .slice m5 n5 c5, .int .i64 bp, .int .i64 rg] : List Value)).all (·.oneCell') = true := all_oneCell_toArray (by simp [Value.oneCell'])
theorem toG_any (Jp Js Jc Jl : Int) (Jst Jsk Jre Jfe Jag : Bool) (Ja1 Ja2 : Option Addr) (Jan1 Jac1 Jan2 Jac2 : Nat) (Jap : Int) (Jm : Option Addr) (Jmn Jmc : Nat) (Jb1 Jb2 : Option Addr) (Jbn1 Jbc1 Jbn2 Jbc2 : Nat) (Jbp Jrg : Int) (sx sy ms nx ny : List Int) (w : World) (h : GamR w Ja1 Ja2 Jan1 Jan2 Jm Jmn Jb1 Jb2 Jbn1 Jbn2 sx sy ms nx ny) :
  Calls Tryz.prog 14 #[.agg #[.int .i64 Jp, .int .i64 Js, .bool Jst, .bool Jsk, .bool Jre, .bool Jfe, .bool Jag, .int .i64 Jc, .int .i64 Jl, .slice Ja1 Jan1 Jac1, .slice Ja2 Jan2 Jac2, .int .i64 Jap, .slice Jm Jmn Jmc, .slice Jb1 Jbn1 Jbc1, .slice Jb2 Jbn2 Jbc2, .int .i64 Jbp, .int .i64 Jrg]] w (GamP Jp Js Jc Jl Jst Jsk Jre Jfe Jag Jan1 Jan2 Jap Jmn Jbn1 Jbn2 Jbp Jrg sx sy ms nx ny w) := by
 have H := Lib.hid h
 clear h
 have HS := Lib.hid (tgm_new Jp Js Jc Jl Jst Jsk Jre Jfe Jag Ja1 Ja2 Jan1 Jac1 Jan2 Jac2 Jap Jm Jmn Jmc Jb1 Jb2 Jbn1 Jbc1 Jbn2 Jbc2 Jbp Jrg w 28 35)
 go_enter Tryz.func14, Tryz.ntmps14
 go_wp2_with fail
 refine (toRules_any Jp Js Jc Jl Jst Jsk Jre Jfe Jag _).mono ?_
 rintro e u1 ⟨rfl, b1⟩
 have HS := Lib.hid (HS.out.below b1)
 clear b1
 have lz1 := HS.out.z.lt
 obtain ⟨⟨_, d0, d1, d2, d3, d4, d5, d6, d7, d8, d9, d10, d11, d12, d13, d14, d15, d16⟩, -, ⟨_, z0, z1, z2, z3, z4, z5, z6, z7, z8, z9, z10, z11, z12, z13, z14, z15, z16, zf⟩, -⟩ := HS.out
 go_wp2_with fail
 refine (toPos_any Ja1 Ja2 Jan1 Jac1 Jan2 Jac2 Jap sx sy _ (H.out.s.below ((HS.out.setR (.int .i64 Jp) (.int .i64 Js) (.bool Jst) (.bool Jsk) (.bool Jre) (.bool Jfe) (.bool Jag) (.int .i64 Jc) (.int .i64 Jl)).b))).mono ?_
 rintro e u2 ⟨g1, g2, rfl, o2, l1, l2, b2⟩
 have e1 : w.heap.size + 1 + 1 < g1 := by have := o2.o1.new; simp at this; omega
 have e2 : w.heap.size + 1 + 1 < g2 := by have := o2.o2.new; simp at this; omega
 have O2 := Lib.hid (o2.lower (C := w.heap.size) (by simp; omega))
 have HS := Lib.hid ((HS.out.setR (.int .i64 Jp) (.int .i64 Js) (.bool Jst) (.bool Jsk) (.bool Jre) (.bool Jfe) (.bool Jag) (.int .i64 Jc) (.int .i64 Jl)).below b2)
 clear b2 o2 d0 z0 d1 z1 d2 z2 d3 z3 d4 z4 d5 z5 d6 z6 d7 z7 d8 z8 d9 z9 d10 z10 d11 z11 d12 z12 d13 z13 d14 z14 d15 z15 d16 z16 zf
 have lz2 := HS.out.z.lt
 obtain ⟨⟨_, d0, d1, d2, d3, d4, d5, d6, d7, d8, d9, d10, d11, d12, d13, d14, d15, d16⟩, -, ⟨_, z0, z1, z2, z3, z4, z5, z6, z7, z8, z9, z10, z11, z12, z13, z14, z15, z16, zf⟩, -⟩ := HS.out
 go_wp2_with fail
 refine (toRow_any Jm Jmc Jmn ms _ H.out.lm (H.out.m.below ((HS.out.setS (.slice (some ⟨g1, 0, none⟩) Jan1 Jan1) (.slice (some ⟨g2, 0, none⟩) Jan2 Jan2) (.int .i64 Jap)).b))).mono ?_
 rintro e u3 ⟨g3, rfl, o3, l3, b3⟩
 have e3 : w.heap.size + 1 + 1 < g3 := by have := o3.new; simp at this; omega
 have O3 := Lib.hid (o3.lower (C := w.heap.size) (by simp; omega))
 have O2 := Lib.hid ((O2.out.but (but_setS (w.heap.size + 1 + 1) u2 (.slice (some ⟨g1, 0, none⟩) Jan1 Jan1) (.slice (some ⟨g2, 0, none⟩) Jan2 Jan2) (.int .i64 Jap)) (by omega) (by omega)).below b3)
 have HS := Lib.hid ((HS.out.setS (.slice (some ⟨g1, 0, none⟩) Jan1 Jan1) (.slice (some ⟨g2, 0, none⟩) Jan2 Jan2) (.int .i64 Jap)).below b3)
 have s3 := b3.size
 simp at s3
 clear b3 o3 d0 z0 d1 z1 d2 z2 d3 z3 d4 z4 d5 z5 d6 z6 d7 z7 d8 z8 d9 z9 d10 z10 d11 z11 d12 z12 d13 z13 d14 z14 d15 z15 d16 z16 zf
 have lz3 := HS.out.z.lt
 obtain ⟨⟨_, d0, d1, d2, d3, d4, d5, d6, d7, d8, d9, d10, d11, d12, d13, d14, d15, d16⟩, -, ⟨_, z0, z1, z2, z3, z4, z5, z6, z7, z8, z9, z10, z11, z12, z13, z14, z15, z16, zf⟩, -⟩ := HS.out
 go_wp2_with fail
 refine (toPos_any Jb1 Jb2 Jbn1 Jbc1 Jbn2 Jbc2 Jbp nx ny _ (H.out.n.below ((HS.out.setM (.slice (some ⟨g3, 0, none⟩) Jmn Jmn)).b))).mono ?_
 rintro e u4 ⟨g4, g5, rfl, o4, l4, l5, b4⟩
 have e4 : w.heap.size + 1 + 1 < g4 := by have := o4.o1.new; simp at this; omega
 have e5 : w.heap.size + 1 + 1 < g5 := by have := o4.o2.new; simp at this; omega
 have O4 := Lib.hid (o4.lower (C := w.heap.size) (by simp; omega))
 have O3 := Lib.hid ((O3.out.but (but_setM (w.heap.size + 1 + 1) u3 (.slice (some ⟨g3, 0, none⟩) Jmn Jmn)) (by omega)).below b4)
 have O2 := Lib.hid ((O2.out.but (but_setM (w.heap.size + 1 + 1) u3 (.slice (some ⟨g3, 0, none⟩) Jmn Jmn)) (by omega) (by omega)).below b4)
 have HS := Lib.hid ((HS.out.setM (.slice (some ⟨g3, 0, none⟩) Jmn Jmn)).below b4)
 have s4 := b4.size
 simp at s4
 clear b4 o4 d0 z0 d1 z1 d2 z2 d3 z3 d4 z4 d5 z5 d6 z6 d7 z7 d8 z8 d9 z9 d10 z10 d11 z11 d12 z12 d13 z13 d14 z14 d15 z15 d16 z16 zf
 have d16 := HS.out.a.2.2.2.2.2.2.2.2.2.2.2.2.2.2.2.2.2
 have z13 := HS.out.z.c13
 have z14 := HS.out.z.c14
 have z15 := HS.out.z.c15
 have z16 := HS.out.z.c16
 have zf := HS.out.z.fr
 have HE := Lib.hid ((HS.out.setN (.slice (some ⟨g4, 0, none⟩) Jbn1 Jbn1) (.slice (some ⟨g5, 0, none⟩) Jbn2 Jbn2) (.int .i64 Jbp)).setG (.int .i64 Jrg))
 go_upto_region 7 with fail
 go_step
 have hrg := TGm.rg HE.out.z
 have hth := HE.out.r.there
 refine wpList_load_mid rfl 35 (.tmp 3) rfl (w.heap.size + 1 + 1) 0 rfl _ _ hrg Tryz.underlying35 rfl (by kernel_rfl) ?_
 refine wpList_store_mid rfl 35 (.tmp 2) (.tmp 23) rfl (w.heap.size + 1) 0 (List.toArray [.int .i64 Jp, .int .i64 Js, .bool Jst, .bool Jsk, .bool Jre, .bool Jfe, .bool Jag, .int .i64 Jc, .int .i64 Jl, .slice (some ⟨g1, 0, none⟩) Jan1 Jan1, .slice (some ⟨g2, 0, none⟩) Jan2 Jan2, .int .i64 Jap, .slice (some ⟨g3, 0, none⟩) Jmn Jmn, .slice (some ⟨g4, 0, none⟩) Jbn1 Jbn1, .slice (some ⟨g5, 0, none⟩) Jbn2 Jbn2, .int .i64 Jbp, .int .i64 Jrg]) rfl rfl hth (by kernel_rfl) (gm_one _ _ _ _ _ _ _ _ _ _ _ _ _ _ _ _ _ _ _ _ _ _ _ _ _ _ _) ?_
 clear hrg hth
 simp only [Act.put, List.setIfInBounds_toArray, List.set_cons_zero, List.set_cons_succ]
 go_wp2_with fail
 have hrun := run_loadVar_mid (P := Tryz.prog) _ (w.heap.size + 1) 0 35 [.int .i64 Jp, .int .i64 Js, .bool Jst, .bool Jsk, .bool Jre, .bool Jfe, .bool Jag, .int .i64 Jc, .int .i64 Jl, .slice (some ⟨g1, 0, none⟩) Jan1 Jan1, .slice (some ⟨g2, 0, none⟩) Jan2 Jan2, .int .i64 Jap, .slice (some ⟨g3, 0, none⟩) Jmn Jmn, .slice (some ⟨g4, 0, none⟩) Jbn1 Jbn1, .slice (some ⟨g5, 0, none⟩) Jbn2 Jbn2, .int .i64 Jbp, .int .i64 Jrg] _ (World.rangeAt_setCells_same _ (w.heap.size + 1) 0 [.int .i64 Jp, .int .i64 Js, .bool Jst, .bool Jsk, .bool Jre, .bool Jfe, .bool Jag, .int .i64 Jc, .int .i64 Jl, .slice (some ⟨g1, 0, none⟩) Jan1 Jan1, .slice (some ⟨g2, 0, none⟩) Jan2 Jan2, .int .i64 Jap, .slice (some ⟨g3, 0, none⟩) Jmn Jmn, .slice (some ⟨g4, 0, none⟩) Jbn1 Jbn1, .slice (some ⟨g5, 0, none⟩) Jbn2 Jbn2, .int .i64 Jbp, .int .i64 Jrg] HE.out.r.there) Tryz.underlying35 rfl (by kernel_rfl)
 refine bodyPost_ret (v := .agg (List.toArray [.int .i64 Jp, .int .i64 Js, .bool Jst, .bool Jsk, .bool Jre, .bool Jfe, .bool Jag, .int .i64 Jc, .int .i64 Jl, .slice (some ⟨g1, 0, none⟩) Jan1 Jan1, .slice (some ⟨g2, 0, none⟩) Jan2 Jan2, .int .i64 Jap, .slice (some ⟨g3, 0, none⟩) Jmn Jmn, .slice (some ⟨g4, 0, none⟩) Jbn1 Jbn1, .slice (some ⟨g5, 0, none⟩) Jbn2 Jbn2, .int .i64 Jbp, .int .i64 Jrg])) ?_ rfl ⟨g1, g2, g3, g4, g5, rfl, ⟨?_, ?_, H.out.lm, ?_⟩, ?_, ?_⟩
 ·simp [results, Tryz.results14, asAddr, hrun]
 ·exact (((O2.out.but (but_setN (w.heap.size + 1 + 1) u4 (.slice (some ⟨g4, 0, none⟩) Jbn1 Jbn1) (.slice (some ⟨g5, 0, none⟩) Jbn2 Jbn2) (.int .i64 Jbp)) (by omega) (by omega)).but (but_setG (w.heap.size + 1 + 1) _ (.int .i64 Jrg)) (by omega) (by omega)).but (but_scg (w.heap.size + 1) [.int .i64 Jp, .int .i64 Js, .bool Jst, .bool Jsk, .bool Jre, .bool Jfe, .bool Jag, .int .i64 Jc, .int .i64 Jl, .slice (some ⟨g1, 0, none⟩) Jan1 Jan1, .slice (some ⟨g2, 0, none⟩) Jan2 Jan2, .int .i64 Jap, .slice (some ⟨g3, 0, none⟩) Jmn Jmn, .slice (some ⟨g4, 0, none⟩) Jbn1 Jbn1, .slice (some ⟨g5, 0, none⟩) Jbn2 Jbn2, .int .i64 Jbp, .int .i64 Jrg] 0 (But.refl _ _)) (by omega) (by omega))
 ·exact (((O3.out.but (but_setN (w.heap.size + 1 + 1) u4 (.slice (some ⟨g4, 0, none⟩) Jbn1 Jbn1) (.slice (some ⟨g5, 0, none⟩) Jbn2 Jbn2) (.int .i64 Jbp)) (by omega)).but (but_setG (w.heap.size + 1 + 1) _ (.int .i64 Jrg)) (by omega)).but (but_scg (w.heap.size + 1) [.int .i64 Jp, .int .i64 Js, .bool Jst, .bool Jsk, .bool Jre, .bool Jfe, .bool Jag, .int .i64 Jc, .int .i64 Jl, .slice (some ⟨g1, 0, none⟩) Jan1 Jan1, .slice (some ⟨g2, 0, none⟩) Jan2 Jan2, .int .i64 Jap, .slice (some ⟨g3, 0, none⟩) Jmn Jmn, .slice (some ⟨g4, 0, none⟩) Jbn1 Jbn1, .slice (some ⟨g5, 0, none⟩) Jbn2 Jbn2, .int .i64 Jbp, .int .i64 Jrg] 0 (But.refl _ _)) (by omega))
 ·exact (((O4.out.but (but_setN (w.heap.size + 1 + 1) u4 (.slice (some ⟨g4, 0, none⟩) Jbn1 Jbn1) (.slice (some ⟨g5, 0, none⟩) Jbn2 Jbn2) (.int .i64 Jbp)) (by omega) (by omega)).but (but_setG (w.heap.size + 1 + 1) _ (.int .i64 Jrg)) (by omega) (by omega)).but (but_scg (w.heap.size + 1) [.int .i64 Jp, .int .i64 Js, .bool Jst, .bool Jsk, .bool Jre, .bool Jfe, .bool Jag, .int .i64 Jc, .int .i64 Jl, .slice (some ⟨g1, 0, none⟩) Jan1 Jan1, .slice (some ⟨g2, 0, none⟩) Jan2 Jan2, .int .i64 Jap, .slice (some ⟨g3, 0, none⟩) Jmn Jmn, .slice (some ⟨g4, 0, none⟩) Jbn1 Jbn1, .slice (some ⟨g5, 0, none⟩) Jbn2 Jbn2, .int .i64 Jbp, .int .i64 Jrg] 0 (But.refl _ _)) (by omega) (by omega))
 ·rw [size_scg]
  simp
  omega
 ·exact below_scg (w.heap.size + 1) (by omega) [.int .i64 Jp, .int .i64 Js, .bool Jst, .bool Jsk, .bool Jre, .bool Jfe, .bool Jag, .int .i64 Jc, .int .i64 Jl, .slice (some ⟨g1, 0, none⟩) Jan1 Jan1, .slice (some ⟨g2, 0, none⟩) Jan2 Jan2, .int .i64 Jap, .slice (some ⟨g3, 0, none⟩) Jmn Jmn, .slice (some ⟨g4, 0, none⟩) Jbn1 Jbn1, .slice (some ⟨g5, 0, none⟩) Jbn2 Jbn2, .int .i64 Jbp, .int .i64 Jrg] 0 HE.out.b
end Go.Proofs.YtgbaneildbdgdaaGreat
