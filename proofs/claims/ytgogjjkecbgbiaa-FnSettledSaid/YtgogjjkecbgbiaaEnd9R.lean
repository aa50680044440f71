/- The positions that are settled and given, as the reference makes them. No conditions. -/
import Derived.Test.YtgogjjkecbgbiaaEnd9S
import Derived.Test.YtgogjjkecbgbiaaStart5
import Derived.Deep.RegionHeld3
namespace Go.Proofs.Ytgogjjkecbgbiaa
open Go.Joins Go.ChangeShapes Go.WideShapes Go.ChangeAt Go.RowKit Go.Deep
set_option linter.unusedVariables false

/-- Between two rounds. -/
structure EsJ (w : World) (rb pb : Nat) (p s c l : Int) (st sk re fe ag : Bool) (p1 p2 : Option Addr) (pn1 pc1 pn2 pc2 : Nat) (pp : Int) (s0 b5 c5 b6 c6 : Nat) (xs : List Int) (y0 y1 : Int) (u : World) : Prop where
  po : PoAt u pb p1 p2 pn1 pc1 pn2 pc2 pp
  ru : RuAt u rb p s c l st sk re fe ag
  z : ZeroP u w.heap.size
  s : PoAt u s0 (some ⟨b5, 0, none⟩) (some ⟨b6, 0, none⟩) pn1 c5 2 c6 pp
  o : PosO u (w.heap.size + 1) (some ⟨b5, 0, none⟩) (some ⟨b6, 0, none⟩) b5 b6 pn1 2 xs [y0, y1]
  l5 : b5 < u.heap.size
  l6 : b6 < u.heap.size
  k5 : pn1 ≤ c5
  k6 : 2 ≤ c6
  d5 : s0 ≠ b5
  d6 : s0 ≠ b6
  ms : w.heap.size + 1 ≤ s0
  hr : rb < w.heap.size
  hp : pb < w.heap.size
  be : Below w.heap.size w u
section
variable {w u v : World} {rb pb : Nat} {p s c l : Int} {st sk re fe ag : Bool} {p1 p2 : Option Addr} {pn1 pc1 pn2 pc2 : Nat} {pp : Int} {s0 b5 c5 b6 c6 : Nat} {xs : List Int} {y0 y1 : Int}
theorem EsJ.below (h : EsJ w rb pb p s c l st sk re fe ag p1 p2 pn1 pc1 pn2 pc2 pp s0 b5 c5 b6 c6 xs y0 y1 u) (k : Below u.heap.size u v) : EsJ w rb pb p s c l st sk re fe ag p1 p2 pn1 pc1 pn2 pc2 pp s0 b5 c5 b6 c6 xs y0 y1 v :=
  ⟨h.po.below k, h.ru.below k, h.z.below k, h.s.below k, h.o.below k, Nat.lt_of_lt_of_le h.l5 k.size, Nat.lt_of_lt_of_le h.l6 k.size, h.k5, h.k6, h.d5, h.d6, h.ms, h.hr, h.hp, h.be.trans (k.mono h.be.size)⟩
theorem EsJ.set0 (h : EsJ w rb pb p s c l st sk re fe ag p1 p2 pn1 pc1 pn2 pc2 pp s0 b5 c5 b6 c6 xs y0 y1 u) (y : Int) : EsJ w rb pb p s c l st sk re fe ag p1 p2 pn1 pc1 pn2 pc2 pp s0 b5 c5 b6 c6 xs y y1 (u.setCell ⟨b6, 0, none⟩ (.int .i64 y)) := by
  have hb : But b6 u (u.setCell ⟨b6, 0, none⟩ (.int .i64 y)) := (But.refl b6 u).setCell rfl _
  have h6 := h.o.o2.new
  have hm := h.ms
  have hr := h.hr
  have hp := h.hp
  exact ⟨h.po.but hb (by omega), h.ru.but hb (by omega), h.z.but hb (by omega), h.s.but hb h.d6, ⟨h.o.o1.but hb h.o.ne, h.o.o2.set (i := 0) (by simp) y, h.o.ne, h.o.l1, rfl⟩, by simpa using h.l5, by simpa using h.l6, h.k5, h.k6, h.d5, h.d6, h.ms, h.hr, h.hp, h.be.setCell (p := ⟨b6, 0, none⟩) (by show w.heap.size ≤ b6; omega) _⟩
theorem EsJ.set1 (h : EsJ w rb pb p s c l st sk re fe ag p1 p2 pn1 pc1 pn2 pc2 pp s0 b5 c5 b6 c6 xs y0 y1 u) (y : Int) : EsJ w rb pb p s c l st sk re fe ag p1 p2 pn1 pc1 pn2 pc2 pp s0 b5 c5 b6 c6 xs y0 y (u.setCell ⟨b6, 1, none⟩ (.int .i64 y)) := by
  have hb : But b6 u (u.setCell ⟨b6, 1, none⟩ (.int .i64 y)) := (But.refl b6 u).setCell rfl _
  have h6 := h.o.o2.new
  have hm := h.ms
  have hr := h.hr
  have hp := h.hp
  exact ⟨h.po.but hb (by omega), h.ru.but hb (by omega), h.z.but hb (by omega), h.s.but hb h.d6, ⟨h.o.o1.but hb h.o.ne, h.o.o2.set (i := 1) (by simp) y, h.o.ne, h.o.l1, rfl⟩, by simpa using h.l5, by simpa using h.l6, h.k5, h.k6, h.d5, h.d6, h.ms, h.hr, h.hp, h.be.setCell (p := ⟨b6, 1, none⟩) (by show w.heap.size ≤ b6; omega) _⟩
theorem EsJ.at0 (h : EsJ w rb pb p s c l st sk re fe ag p1 p2 pn1 pc1 pn2 pc2 pp s0 b5 c5 b6 c6 xs y0 y1 u) : u.cell? ⟨b6, 0, none⟩ = some (.int .i64 y0) ∧ u.frozen? ⟨b6, 0, none⟩ = false := ⟨h.o.o2.at0 (i := 0) (by simp), (h.o.o2.free (by simp)).2 0⟩
theorem EsJ.at1 (h : EsJ w rb pb p s c l st sk re fe ag p1 p2 pn1 pc1 pn2 pc2 pp s0 b5 c5 b6 c6 xs y0 y1 u) : u.cell? ⟨b6, 1, none⟩ = some (.int .i64 y1) ∧ u.frozen? ⟨b6, 1, none⟩ = false := ⟨h.o.o2.at0 (i := 1) (by simp), (h.o.o2.free (by simp)).2 1⟩
end
theorem RuAt.drew9 {u : World} {d : Nat} {p s c l : Int} {st sk re fe ag : Bool} (h : RuAt u d p s c l st sk re fe ag) : RuAt u.drew d p s c l st sk re fe ag := h
theorem OnW.bel9 {w u : World} (h : OnW w u) : Below w.heap.size w u := h
theorem out_mk9 (u : World) (n : Nat) (T : TypeId) (hn : 0 < n) (h8 : n ≤ 16) : OutN (u.alloc (.cells (madeCells #[.int .i64 0] n) T)) u.heap.size (some ⟨u.heap.size, 0, none⟩) u.heap.size (List.replicate n 0) :=
  ⟨⟨by rw [List.length_replicate]; omega, .inr ⟨u.heap.size, 0, rfl, by simp, fun i x hi => by
    obtain ⟨hl, e⟩ := List.getElem?_eq_some_iff.1 hi
    rw [List.getElem_replicate] at e
    subst e
    exact cell_made u n i (by simpa using hl) T⟩⟩, fun _ _ e => by cases e; rfl, Nat.le_refl _, fun _ => ⟨by simp, fun o => by go_simp⟩⟩
section
variable {w u : World} {rb pb : Nat} {p s c l : Int} {st sk re fe ag : Bool} {p1 p2 : Option Addr} {pn1 pc1 pc2 : Nat} {pp : Int} {s0 b5 b6 c6 B1 B2 : Nat} {y0 y1 : Int}
theorem es_fin1 (hr : RuAt u rb p s c l st sk re fe ag) (hq : PoAt u pb p1 p2 pn1 pc1 2 pc2 pp) (hrb : rb < w.heap.size) (hpb : pb < w.heap.size) (hz : ZeroP u w.heap.size) (hY : ZeroP u s0)
    (o1 : OutN u B1 (some ⟨b5, 0, none⟩) b5 (List.replicate pn1 0)) (o2 : OutN u B2 (some ⟨b6, 0, none⟩) b6 [y0, y1]) (ne : b5 ≠ b6) (n5 : b5 ≠ s0) (n6 : b6 ≠ s0) (l5 : b5 < u.heap.size) (l6 : b6 < u.heap.size) (ms : w.heap.size + 1 ≤ s0) (hB1 : w.heap.size + 1 ≤ B1) (hB2 : w.heap.size + 1 ≤ B2) (k6 : 2 ≤ c6) (hb : Below w.heap.size w u) :
    EsJ w rb pb p s c l st sk re fe ag p1 p2 pn1 pc1 2 pc2 pp s0 b5 pn1 b6 c6 (List.replicate pn1 0) y0 y1 (((u.setCell ⟨s0, 0, none⟩ (.slice (some ⟨b5, 0, none⟩) pn1 pn1)).setCell ⟨s0, 1, none⟩ (.slice (some ⟨b6, 0, none⟩) 2 c6)).setCell ⟨s0, 2, none⟩ (.int .i64 pp)) := by
  have k : But s0 u (((u.setCell ⟨s0, 0, none⟩ (.slice (some ⟨b5, 0, none⟩) pn1 pn1)).setCell ⟨s0, 1, none⟩ (.slice (some ⟨b6, 0, none⟩) 2 c6)).setCell ⟨s0, 2, none⟩ (.int .i64 pp)) := (((But.refl s0 u).setCell (p := ⟨s0, 0, none⟩) rfl _).setCell (p := ⟨s0, 1, none⟩) rfl _).setCell (p := ⟨s0, 2, none⟩) rfl _
  obtain ⟨yl, z0, z1, z2, zf⟩ := hY
  have f0 := zf 0
  have f1 := zf 1
  have f2 := zf 2
  exact ⟨hq.but k (by omega), hr.but k (by omega), hz.but k (by omega), ⟨by simpa using yl, by go_simp, by go_simp, by go_simp⟩, ⟨(o1.but k n5).lower hB1, (o2.but k n6).lower hB2, ne, by simp, rfl⟩, by simpa using l5, by simpa using l6, Nat.le_refl _, k6, fun e => n5 e.symm, fun e => n6 e.symm, ms, hrb, hpb, OnW.set3 (show OnW w u from hb) (by omega) _ _ _⟩
theorem es_fin2 (T : TypeId) (hr : RuAt u rb p s c l st sk re fe ag) (hq : PoAt u pb p1 p2 pn1 pc1 2 pc2 pp) (hrb : rb < w.heap.size) (hpb : pb < w.heap.size) (hz : ZeroP u w.heap.size)
    (o1 : OutN u B1 (some ⟨b5, 0, none⟩) b5 (List.replicate pn1 0)) (o2 : OutN u B2 (some ⟨b6, 0, none⟩) b6 [y0, y1]) (ne : b5 ≠ b6) (l5 : b5 < u.heap.size) (l6 : b6 < u.heap.size) (hB1 : w.heap.size + 1 ≤ B1) (hB2 : w.heap.size + 1 ≤ B2) (k6 : 2 ≤ c6) (hb : Below w.heap.size w u) :
    EsJ w rb pb p s c l st sk re fe ag p1 p2 pn1 pc1 2 pc2 pp u.heap.size b5 pn1 b6 c6 (List.replicate pn1 0) y0 y1 (u.alloc (.cells #[.slice (some ⟨b5, 0, none⟩) pn1 pn1, .slice (some ⟨b6, 0, none⟩) 2 c6, .int .i64 pp] T)) :=
  ⟨hq.below (al1 _ _), hr.below (al1 _ _), hz.below (al1 _ _), po_new _ _ _ _ _ _ _ u T, ⟨(o1.below (al1 _ _)).lower hB1, (o2.below (al1 _ _)).lower hB2, ne, by simp, rfl⟩, by simp; omega, by simp; omega, Nat.le_refl _, k6, by omega, by omega, hz.lt, hrb, hpb, hb.alloc hb.size _⟩
theorem es_fin4 (T T' : TypeId) (hn0 : 0 < pn1) (hn1 : pn1 ≤ 16) (hr : RuAt u rb p s c l st sk re fe ag) (hq : PoAt u pb p1 p2 pn1 pc1 2 pc2 pp) (hrb : rb < w.heap.size) (hpb : pb < w.heap.size) (hz : ZeroP u w.heap.size)
    (o2 : OutN u B2 (some ⟨b6, 0, none⟩) b6 [y0, y1]) (l6 : b6 < u.heap.size) (hB2 : w.heap.size + 1 ≤ B2) (k6 : 2 ≤ c6) (hb : Below w.heap.size w u) :
    EsJ w rb pb p s c l st sk re fe ag p1 p2 pn1 pc1 2 pc2 pp u.heap.size (u.heap.size + 1) pn1 b6 c6 (List.replicate pn1 0) y0 y1 ((u.alloc (.cells #[.slice (some ⟨u.heap.size + 1, 0, none⟩) pn1 pn1, .slice (some ⟨b6, 0, none⟩) 2 c6, .int .i64 pp] T)).alloc (.cells (madeCells #[.int .i64 0] pn1) T')) := by
  have o1 := out_mk9 (u.alloc (.cells #[.slice (some ⟨u.heap.size + 1, 0, none⟩) pn1 pn1, .slice (some ⟨b6, 0, none⟩) 2 c6, .int .i64 pp] T)) pn1 T' hn0 hn1
  rw [World.size_alloc] at o1
  have hs := hz.lt
  exact ⟨(hq.below (al1 _ _)).below (al1 _ _), (hr.below (al1 _ _)).below (al1 _ _), (hz.below (al1 _ _)).below (al1 _ _), (po_new _ _ _ _ _ _ _ u T).below (al1 _ _), ⟨o1.lower (by omega), ((o2.below (al1 _ _)).below (al1 _ _)).lower hB2, by omega, by simp, rfl⟩, by simp, by simp; omega, Nat.le_refl _, k6, by omega, by omega, hz.lt, hrb, hpb, (hb.alloc hb.size _).alloc (by simp; have := hb.size; omega) _⟩
theorem es_fin6 (T' : TypeId) (hn0 : 0 < pn1) (hn1 : pn1 ≤ 16) (hr : RuAt u rb p s c l st sk re fe ag) (hq : PoAt u pb p1 p2 pn1 pc1 2 pc2 pp) (hrb : rb < w.heap.size) (hpb : pb < w.heap.size) (hz : ZeroP u w.heap.size) (hY : ZeroP u s0)
    (o2 : OutN u B2 (some ⟨b6, 0, none⟩) b6 [y0, y1]) (n6 : b6 ≠ s0) (l6 : b6 < u.heap.size) (ms : w.heap.size + 1 ≤ s0) (hB2 : w.heap.size + 1 ≤ B2) (k6 : 2 ≤ c6) (hb : Below w.heap.size w u) :
    EsJ w rb pb p s c l st sk re fe ag p1 p2 pn1 pc1 2 pc2 pp s0 u.heap.size pn1 b6 c6 (List.replicate pn1 0) y0 y1 ((((u.setCell ⟨s0, 0, none⟩ (.slice (some ⟨u.heap.size, 0, none⟩) pn1 pn1)).setCell ⟨s0, 1, none⟩ (.slice (some ⟨b6, 0, none⟩) 2 c6)).setCell ⟨s0, 2, none⟩ (.int .i64 pp)).alloc (.cells (madeCells #[.int .i64 0] pn1) T')) := by
  have k : But s0 u (((u.setCell ⟨s0, 0, none⟩ (.slice (some ⟨u.heap.size, 0, none⟩) pn1 pn1)).setCell ⟨s0, 1, none⟩ (.slice (some ⟨b6, 0, none⟩) 2 c6)).setCell ⟨s0, 2, none⟩ (.int .i64 pp)) := (((But.refl s0 u).setCell (p := ⟨s0, 0, none⟩) rfl _).setCell (p := ⟨s0, 1, none⟩) rfl _).setCell (p := ⟨s0, 2, none⟩) rfl _
  have o1 := out_mk9 (((u.setCell ⟨s0, 0, none⟩ (.slice (some ⟨u.heap.size, 0, none⟩) pn1 pn1)).setCell ⟨s0, 1, none⟩ (.slice (some ⟨b6, 0, none⟩) 2 c6)).setCell ⟨s0, 2, none⟩ (.int .i64 pp)) pn1 T' hn0 hn1
  have e : (((u.setCell ⟨s0, 0, none⟩ (.slice (some ⟨u.heap.size, 0, none⟩) pn1 pn1)).setCell ⟨s0, 1, none⟩ (.slice (some ⟨b6, 0, none⟩) 2 c6)).setCell ⟨s0, 2, none⟩ (.int .i64 pp)).heap.size = u.heap.size := by simp
  rw [e] at o1
  have hzl := hz.lt
  obtain ⟨yl, z0, z1, z2, zf⟩ := hY
  have f0 := zf 0
  have f1 := zf 1
  have f2 := zf 2
  have hP : PoAt (((u.setCell ⟨s0, 0, none⟩ (.slice (some ⟨u.heap.size, 0, none⟩) pn1 pn1)).setCell ⟨s0, 1, none⟩ (.slice (some ⟨b6, 0, none⟩) 2 c6)).setCell ⟨s0, 2, none⟩ (.int .i64 pp)) s0 (some ⟨u.heap.size, 0, none⟩) (some ⟨b6, 0, none⟩) pn1 pn1 2 c6 pp := ⟨by simpa using yl, by go_simp, by go_simp, by go_simp⟩
  have hbk : Below w.heap.size w (((u.setCell ⟨s0, 0, none⟩ (.slice (some ⟨u.heap.size, 0, none⟩) pn1 pn1)).setCell ⟨s0, 1, none⟩ (.slice (some ⟨b6, 0, none⟩) 2 c6)).setCell ⟨s0, 2, none⟩ (.int .i64 pp)) := OnW.set3 (show OnW w u from hb) (by omega) _ _ _
  exact ⟨(hq.but k (by omega)).below (al1 _ _), (hr.but k (by omega)).below (al1 _ _), (hz.but k (by omega)).below (al1 _ _), hP.below (al1 _ _), ⟨o1.lower (by omega), ((o2.but k n6).below (al1 _ _)).lower hB2, by omega, by simp, rfl⟩, by simp, by simp; omega, Nat.le_refl _, k6, by omega, fun e' => n6 e'.symm, ms, hrb, hpb, hbk.alloc hbk.size _⟩
end
set_option maxHeartbeats 8000000 in
set_option maxRecDepth 100000 in
theorem settle_any (P : Nat) (s c l : Int) (st sk re fe ag : Bool) (p1 p2 : Option Addr) (pn1 pc1 pc2 : Nat) (pp : Int) (xs : List Int) (y0 y1 h0 h1 : Int) (rb pb : Nat) (w : World) (hr : RuAt w rb (P : Int) s c l st sk re fe ag) (hq : PoAt w pb p1 p2 pn1 pc1 2 pc2 pp) (h : PosR w p1 p2 pn1 2 xs [y0, y1]) (hs : seedB xs [y0, y1] = true) (hP : 2 ≤ P) (hP2 : P ≤ 8) (hn : pn1 = 2 * P) (e0 : tot (halfL xs P 0) = h0) (e1 : tot (halfL xs P 1) = h1) :
    Calls Try.prog 25 #[.pointer (some ⟨rb, 0, none⟩), .pointer (some ⟨pb, 0, none⟩)] w (PosQ pn1 2 pp (List.replicate pn1 0) [y0 + h0, y1 + h1] w) := by
  obtain ⟨q1, q2, q3⟩ := seedB_parts hs
  have q4 := posB_tot q1
  simp only [posB, List.all_cons, List.all_nil, Bool.and_true, Bool.and_eq_true, decide_eq_true_eq] at q2
  obtain ⟨r0, r1⟩ := q2
  rw [tot2] at q3
  have hlen : xs.length = 2 * P := h.l1.trans hn
  have u0 := half_tot (xs := xs) (P := P) (player := 0) hlen (.inl rfl) q1
  have u1 := half_tot (xs := xs) (P := P) (player := 1) hlen (.inr rfl) q1
  have v0 := posB_tot u0.1
  have v1 := posB_tot u1.1
  have hsum := half_sum hlen
  rw [e0] at v0 u0 hsum
  rw [e1] at v1 u1 hsum
  have g0 : 0 ≤ h0 ∧ h0 ≤ 96 := by omega
  have g1 : 0 ≤ h1 ∧ h1 ≤ 96 := by omega
  have g2 : y0 + h0 + h1 ≤ 96 := by omega
  have g3 : y1 + h0 + h1 ≤ 96 := by omega
  have hn16 : 0 < pn1 ∧ pn1 ≤ 16 := by omega
  have HSd0 : Hid (∀ u, Below w.heap.size w u → Calls Try.prog 45 #[.pointer (some ⟨rb, 0, none⟩), .slice p1 pn1 pc1, .int .i64 0] u fun e w' => e = .returned (.int .i64 h0) ∧ u = w') :=
    Lib.hid (fun u hu => by rw [← e0]; exact l04Side_any P rb p1 pc1 pn1 xs 0 u (hr.below hu).2.1 h.l1 (h.r1.below hu) hP hP2 hn (.inl rfl) q1 (by omega))
  have HSd1 : Hid (∀ u, Below w.heap.size w u → Calls Try.prog 45 #[.pointer (some ⟨rb, 0, none⟩), .slice p1 pn1 pc1, .int .i64 1] u fun e w' => e = .returned (.int .i64 h1) ∧ u = w') :=
    Lib.hid (fun u hu => by rw [← e1]; exact l04Side_any P rb p1 pc1 pn1 xs 1 u (hr.below hu).2.1 h.l1 (h.r1.below hu) hP hP2 hn (.inr rfl) q1 (by omega))
  have hmk : ∀ v : World, (Instr.makeSlice 26 (.int .i64 pn1) (.int .i64 pn1)).run Try.prog v = .ok (.slice (some ⟨v.heap.size, 0, none⟩) pn1 pn1) (v.alloc (.cells (madeCells #[.int .i64 0] pn1) 2)) := fun v => run_make_row' (P := Try.prog) 26 2 (.int .i64 0) 8 Try.underlying26 infoN rfl .i64 .i64 pn1 (by omega) (by omega) v
  have HP := Lib.hid (hq.below (al1 w (.cells #[.slice none 0 0, .slice none 0 0, .int .i64 0] 28)))
  have HR := Lib.hid (hr.below (al1 w (.cells #[.slice none 0 0, .slice none 0 0, .int .i64 0] 28)))
  have HZ := Lib.hid (zero_new w 28)
  have HB := Lib.hid (show OnW w _ from al1 w (.cells #[.slice none 0 0, .slice none 0 0, .int .i64 0] 28))
  have hrb := hr.1
  have hpb := hq.1
  have H := Lib.hid h
  have Hn := Lib.hid hn
  clear h hs q1 u0 u1 e0 e1 hn hlen hsum v0 v1 q4 hr hq
  go_enter Try.func25, Try.ntmps25
  go_upto_region 1 with fail
  generalize w.alloc (.cells #[.slice none 0 0, .slice none 0 0, .int .i64 0] 28) = w1 at *
  have hw1 : w.heap.size + 1 ≤ w1.heap.size := HZ.out.lt
  go_cut [5] (fun s5 wx => ∃ s0 b5 b6 c6 : Nat, s5 = .pointer (some ⟨s0, 0, none⟩) ∧ EsJ w rb pb (P : Int) s c l st sk re fe ag p1 p2 pn1 pc1 2 pc2 pp s0 b5 pn1 b6 c6 (List.replicate pn1 0) y0 y1 wx)
  case first =>
    have HT : Hid (∀ u : World, PoAt u pb p1 p2 pn1 pc1 2 pc2 pp → OnW w u → (pb < u.heap.size ∧ u.cell? ⟨pb, 0, none⟩ = some (.slice p1 pn1 pc1) ∧ u.cell? ⟨pb, 1, none⟩ = some (.slice p2 2 pc2) ∧ u.cell? ⟨pb, 2, none⟩ = some (.int .i64 pp)) ∧ Below w.heap.size w u) := Lib.hid (fun u h k => ⟨h, k⟩)
    go_region_held3 (fun u => (pb < u.heap.size ∧ u.cell? ⟨pb, 0, none⟩ = some (.slice p1 pn1 pc1) ∧ u.cell? ⟨pb, 1, none⟩ = some (.slice p2 2 pc2) ∧ u.cell? ⟨pb, 2, none⟩ = some (.int .i64 pp)) ∧ Below w.heap.size w u) (first | with_reducible exact HT.out _ HP.out HB.out | with_reducible exact HT.out _ HP.out.drew HB.out.drew | with_reducible exact HT.out _ (HP.out.below (al1 _ _)) (HB.out.below (al1 _ _)) | with_reducible exact HT.out _ (HP.out.drew.below (al1 _ _)) (HB.out.drew.below (al1 _ _)) | with_reducible exact HT.out _ (HP.out.below (al1 _ _)).drew (HB.out.below (al1 _ _)).drew | with_reducible exact HT.out _ (HP.out.below (al2 _ _ _)) (HB.out.below (al2 _ _ _)) | with_reducible exact HT.out _ (HP.out.drew.below (al2 _ _ _)) (HB.out.drew.below (al2 _ _ _)) | with_reducible exact HT.out _ (HP.out.below (al2 _ _ _)).drew (HB.out.below (al2 _ _ _)).drew | with_reducible exact HT.out _ (HP.out.set3 (by omega) _ _ _) (HB.out.set3 (by omega) _ _ _) | with_reducible exact HT.out _ ((HP.out.below (al1 _ _)).set3 (by omega) _ _ _) ((HB.out.below (al1 _ _)).set3 (by omega) _ _ _) | with_reducible exact HT.out _ ((HP.out.set3 (by omega) _ _ _).below (al1 _ _)) ((HB.out.set3 (by omega) _ _ _).below (al1 _ _)))
      ((go_at_call 44; (with_reducible refine (l00Own_any p2 pc2 2 [y0, y1] _ H.out.l2 ?_ (by simp)).mono ?_); (first | with_reducible exact H.out.r2.below (HB.out).bel9 | with_reducible exact H.out.r2.below (HB.out.drew).bel9 | with_reducible exact H.out.r2.below (HB.out.below (al1 _ _)).bel9 | with_reducible exact H.out.r2.below (HB.out.drew.below (al1 _ _)).bel9 | with_reducible exact H.out.r2.below ((HB.out.below (al1 _ _)).drew).bel9 | with_reducible exact H.out.r2.below (HB.out.below (al2 _ _ _)).bel9 | with_reducible exact H.out.r2.below (HB.out.drew.below (al2 _ _ _)).bel9 | with_reducible exact H.out.r2.below ((HB.out.below (al2 _ _ _)).drew).bel9); rintro e w6 ⟨v2, rfl, hown, hb6⟩; (obtain ⟨c6, b6, rfl, o6, hlt6, hc6⟩ := outN_own hown rfl (by omega) (by simp)); have O6 := Lib.hid o6; have nb6 := o6.new; (first | with_reducible have HM := Lib.hid ((out_mk9 _ pn1 2 hn16.1 hn16.2).below hb6) | with_reducible have HM := Lib.hid ((out_mk9 _ pn1 2 hn16.1 hn16.2).drew.below hb6) | with_reducible have HM := Lib.hid (((out_mk9 _ pn1 2 hn16.1 hn16.2).alloc _).below hb6) | with_reducible have HM := Lib.hid (((out_mk9 _ pn1 2 hn16.1 hn16.2).alloc _).drew.below hb6) | skip); (first | with_reducible have HY := Lib.hid ((zero_new _ 28).below hb6) | with_reducible have HY := Lib.hid ((zero_new _ 28).drew.below hb6) | with_reducible have HY := Lib.hid (((zero_new _ 28).alloc _).below hb6) | with_reducible have HY := Lib.hid (((zero_new _ 28).alloc _).drew.below hb6) | skip); (first | with_reducible have HP := Lib.hid (HP.out.below hb6) | with_reducible have HP := Lib.hid (HP.out.drew.below hb6) | with_reducible have HP := Lib.hid ((HP.out.below (al1 _ _)).below hb6) | with_reducible have HP := Lib.hid ((HP.out.drew.below (al1 _ _)).below hb6) | with_reducible have HP := Lib.hid ((HP.out.below (al1 _ _)).drew.below hb6) | with_reducible have HP := Lib.hid ((HP.out.below (al2 _ _ _)).below hb6) | with_reducible have HP := Lib.hid ((HP.out.drew.below (al2 _ _ _)).below hb6) | with_reducible have HP := Lib.hid ((HP.out.below (al2 _ _ _)).drew.below hb6)); (first | with_reducible have HR := Lib.hid (HR.out.below hb6) | with_reducible have HR := Lib.hid (HR.out.drew9.below hb6) | with_reducible have HR := Lib.hid ((HR.out.below (al1 _ _)).below hb6) | with_reducible have HR := Lib.hid ((HR.out.drew9.below (al1 _ _)).below hb6) | with_reducible have HR := Lib.hid ((HR.out.below (al1 _ _)).drew9.below hb6) | with_reducible have HR := Lib.hid ((HR.out.below (al2 _ _ _)).below hb6) | with_reducible have HR := Lib.hid ((HR.out.drew9.below (al2 _ _ _)).below hb6) | with_reducible have HR := Lib.hid ((HR.out.below (al2 _ _ _)).drew9.below hb6)); (first | with_reducible have HZ := Lib.hid (HZ.out.below hb6) | with_reducible have HZ := Lib.hid (HZ.out.drew.below hb6) | with_reducible have HZ := Lib.hid ((HZ.out.below (al1 _ _)).below hb6) | with_reducible have HZ := Lib.hid ((HZ.out.drew.below (al1 _ _)).below hb6) | with_reducible have HZ := Lib.hid ((HZ.out.below (al1 _ _)).drew.below hb6) | with_reducible have HZ := Lib.hid ((HZ.out.below (al2 _ _ _)).below hb6) | with_reducible have HZ := Lib.hid ((HZ.out.drew.below (al2 _ _ _)).below hb6) | with_reducible have HZ := Lib.hid ((HZ.out.below (al2 _ _ _)).drew.below hb6)); (first | with_reducible have HB := Lib.hid (HB.out.below hb6) | with_reducible have HB := Lib.hid (HB.out.drew.below hb6) | with_reducible have HB := Lib.hid ((HB.out.below (al1 _ _)).below hb6) | with_reducible have HB := Lib.hid ((HB.out.drew.below (al1 _ _)).below hb6) | with_reducible have HB := Lib.hid ((HB.out.below (al1 _ _)).drew.below hb6) | with_reducible have HB := Lib.hid ((HB.out.below (al2 _ _ _)).below hb6) | with_reducible have HB := Lib.hid ((HB.out.drew.below (al2 _ _ _)).below hb6) | with_reducible have HB := Lib.hid ((HB.out.below (al2 _ _ _)).drew.below hb6)); have sz6 := hb6.size; (try (have hm9 := HM.out; (try simp only [World.size_alloc] at hm9); have HM := Lib.hid hm9; clear hm9)); (try (have hy9 := HY.out; (try simp only [World.size_alloc] at hy9); have HY := Lib.hid hy9; obtain ⟨yz, ya, yb, yc, yf⟩ := hy9; have ff0 := yf 0; have ff1 := yf 1; have ff2 := yf 2; clear yf)); clear hown hb6 o6))
    all_goals (try simp at nb6)
    all_goals (try simp at sz6)
    all_goals go_wp2_with fail
    all_goals go_meet
    all_goals first
      | exact ⟨_, _, _, _, rfl, es_fin2 28 HR.out HP.out hrb hpb HZ.out HM.out O6.out (by omega) (by omega) hlt6 (by omega) (by first | omega | (simp; omega)) hc6 HB.out⟩
      | exact ⟨_, _, _, _, rfl, es_fin1 HR.out HP.out hrb hpb HZ.out HY.out HM.out O6.out (by omega) (by omega) (by omega) (by omega) hlt6 (by omega) (by omega) (by first | omega | (simp; omega)) hc6 HB.out⟩
      | (have hh9 := es_fin2 (w := w) (c6 := c6) (p1 := p1) (pn1 := pn1) (y0 := y0) 28 (HR.out.below (al1 _ _)) (HP.out.below (al1 _ _)) hrb hpb (HZ.out.below (al1 _ _)) (out_mk9 w6 pn1 2 hn16.1 hn16.2) (O6.out.below (al1 _ _)) (by omega) (by simp) (by simp; omega) (by omega) (by first | omega | (simp; omega)) hc6 (HB.out.below (al1 _ _)); rw [World.size_alloc] at hh9; exact ⟨_, _, _, _, rfl, hh9⟩)
      | exact ⟨_, _, _, _, rfl, es_fin4 28 2 hn16.1 hn16.2 HR.out HP.out hrb hpb HZ.out O6.out hlt6 (by first | omega | (simp; omega)) hc6 HB.out⟩
      | exact ⟨_, _, _, _, rfl, es_fin6 2 hn16.1 hn16.2 HR.out HP.out hrb hpb HZ.out HY.out O6.out (by omega) hlt6 (by omega) (by first | omega | (simp; omega)) hc6 HB.out⟩
  case rest =>
    obtain ⟨s0, b5, b6, c6, rfl, hJ⟩ := hcut
    have HJ0 := Lib.hid hJ
    clear hJ HP HR HZ HB hmk
    go_wp2_with fail
    go_loopw [6] (fun i wr => (i = .int .i64 0 ∧ EsJ w rb pb (P : Int) s c l st sk re fe ag p1 p2 pn1 pc1 2 pc2 pp s0 b5 pn1 b6 c6 (List.replicate pn1 0) y0 y1 wr) ∨ (i = .int .i64 1 ∧ EsJ w rb pb (P : Int) s c l st sk re fe ag p1 p2 pn1 pc1 2 pc2 pp s0 b5 pn1 b6 c6 (List.replicate pn1 0) (y0 + h0) y1 wr) ∨ (i = .int .i64 2 ∧ EsJ w rb pb (P : Int) s c l st sk re fe ag p1 p2 pn1 pc1 2 pc2 pp s0 b5 pn1 b6 c6 (List.replicate pn1 0) (y0 + h0) (y1 + h1) wr)) (fun i _ => 2 - (intOf i).toNat)
    case atStart => exact .inl ⟨rfl, HJ0.out⟩
    case round =>
      clear HJ0
      rcases hrel with ⟨rfl, hJ⟩ | ⟨rfl, hJ⟩ | ⟨rfl, hJ⟩
      · have HJ := Lib.hid hJ
        clear hJ
        have hw : IntKind.i64.wrap (y0 + h0) = y0 + h0 := IntWalk.i64_in _ ⟨by omega, by omega⟩
        have HW := Lib.hid hw
        go_upto_region 5 with fail
        obtain ⟨_, t0, t1, t2⟩ := HJ.out.s
        obtain ⟨_, x0, x1, x2⟩ := HJ.out.po
        obtain ⟨z0, zf⟩ := HJ.out.at0
        have HD := Lib.hid (HJ.out.below (Below.refl _ _).drew)
        go_region_law ((go_simp; go_at_call 45; (with_reducible refine (HSd0.out _ HD.out.be).mono ?_); rintro e w9 ⟨rfl, rfl⟩))
        all_goals
          have HN := Lib.hid ((HJ.out.set0 (y0 + h0)).below (Below.refl _ _).drew)
          clear HD x0 x1 x2
          clear z0 zf t0 t1 t2
          go_wp2_with fail
          go_roundw
          case rel => exact .inr (.inl ⟨rfl, HN.out⟩)
          case measure => simp [intOf]
      · have HJ := Lib.hid hJ
        clear hJ
        have hw : IntKind.i64.wrap (y1 + h1) = y1 + h1 := IntWalk.i64_in _ ⟨by omega, by omega⟩
        have HW := Lib.hid hw
        go_upto_region 5 with fail
        obtain ⟨_, t0, t1, t2⟩ := HJ.out.s
        obtain ⟨_, x0, x1, x2⟩ := HJ.out.po
        obtain ⟨z0, zf⟩ := HJ.out.at1
        have HD := Lib.hid (HJ.out.below (Below.refl _ _).drew)
        go_region_law ((go_simp; go_at_call 45; (with_reducible refine (HSd1.out _ HD.out.be).mono ?_); rintro e w9 ⟨rfl, rfl⟩))
        all_goals
          have HN := Lib.hid ((HJ.out.set1 (y1 + h1)).below (Below.refl _ _).drew)
          clear HD x0 x1 x2
          clear z0 zf t0 t1 t2
          go_wp2_with fail
          go_roundw
          case rel => exact .inr (.inr ⟨rfl, HN.out⟩)
          case measure => simp [intOf]
      · have HN := Lib.hid hJ
        clear hJ
        obtain ⟨_, t0, t1, t2⟩ := HN.out.s
        obtain ⟨zl, z0, z1, z2, zf⟩ := HN.out.z
        have f0 := zf 0
        have f1 := zf 1
        have f2 := zf 2
        clear zf
        go_wp2_with fail
        have hn5 := HN.out.o.o1.new
        have hn6 := HN.out.o.o2.new
        refine bodyPost_ret (v := .agg #[.slice (some ⟨b5, 0, none⟩) pn1 pn1, .slice (some ⟨b6, 0, none⟩) 2 c6, .int .i64 pp]) (by simp [results, Try.results25, go_sem, z0, z1, z2]) rfl ⟨b5, pn1, b6, c6, rfl, (HN.out.o.set3 _ _ _ (by omega) (by omega)).lower (by omega), by simpa using HN.out.l5, by simpa using HN.out.l6, HN.out.k5, HN.out.k6, OnW.set3 (show OnW w wr from HN.out.be) (by omega) _ _ _⟩
end Go.Proofs.Ytgogjjkecbgbiaa
