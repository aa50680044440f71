/- The position whose pits are emptied, as the program makes it. No conditions. -/
import Derived.Test.YtgogjjkecbgbiaaEnd9V
import Derived.Test.YtgogjjkecbgbiaaSownAt
import Derived.Test.YtgogjjkecbgbiaaView4
import Derived.Lib.SliceRun
import Derived.Deep.RegionLaw
import Derived.Deep.DeepCutAuto
namespace Go.Proofs.Ytgogjjkecbgbiaa
open Go.Joins Go.ChangeShapes Go.WideShapes Go.ChangeAt Go.RowKit Go.Deep
set_option linter.unusedVariables false

theorem but_scs (b : Nat) : ∀ (vs : List Value) (o : Nat) (u : World), But b u (u.setCells b o vs)
  | [], _, u => But.refl b u
  | v :: r, o, u => ((But.refl b u).setCell (p := ⟨b, o, none⟩) rfl v).trans (but_scs b r (o + 1) _)
/-- A row is cleared. -/
theorem OutN.wipe {B g : Nat} : ∀ (rest pre : List Int) (W : World), OutN W B (some ⟨g, 0, none⟩) g (pre ++ rest) → OutN (W.setCells g pre.length (List.replicate rest.length (.int .i64 0))) B (some ⟨g, 0, none⟩) g (pre ++ List.replicate rest.length 0)
  | [], pre, W, h => by simpa [World.setCells] using h
  | x :: r, pre, W, h => by
    have h1 := h.set (i := pre.length) (by simp) 0
    have e : (pre ++ x :: r).set pre.length 0 = (pre ++ [0]) ++ r := by simp
    rw [e] at h1
    have h2 := OutN.wipe r (pre ++ [0]) _ h1
    rw [List.length_append] at h2
    simpa [World.setCells, List.replicate_succ] using h2
theorem half_sum {xs : List Int} {P : Nat} (hn : xs.length = 2 * P) : tot (halfL xs P 0) + tot (halfL xs P 1) = tot xs := by
  have e : halfL xs P 0 ++ halfL xs P 1 = xs := by
    unfold halfL
    have h0 : (0 : Int).toNat * P = 0 := by simp
    have h1 : (1 : Int).toNat * P = P := by simp
    rw [h0, h1, List.drop_zero, List.take_of_length_le (l := xs.drop P) (by rw [List.length_drop]; omega), List.take_append_drop]
  rw [← tot_app, e]
/-- Between two rounds. -/
structure EmJ (w : World) (p s c l : Int) (st sk re fe ag : Bool) (p1 p2 : Option Addr) (pn1 pc1 pn2 pc2 : Nat) (pp : Int) (s0 b5 c5 b6 c6 : Nat) (xs : List Int) (y0 y1 : Int) (u : World) : Prop where
  po : PoAt u w.heap.size p1 p2 pn1 pc1 pn2 pc2 pp
  ru : RuAt u (w.heap.size + 1) p s c l st sk re fe ag
  z : ZeroP u (w.heap.size + 1 + 1 + 1)
  s : PoAt u s0 (some ⟨b5, 0, none⟩) (some ⟨b6, 0, none⟩) pn1 c5 2 c6 pp
  o : PosO u (w.heap.size + 4) (some ⟨b5, 0, none⟩) (some ⟨b6, 0, none⟩) b5 b6 pn1 2 xs [y0, y1]
  l5 : b5 < u.heap.size
  l6 : b6 < u.heap.size
  k5 : pn1 ≤ c5
  k6 : 2 ≤ c6
  d5 : s0 ≠ b5
  d6 : s0 ≠ b6
  ms : w.heap.size + 4 ≤ s0
  be : Below w.heap.size w u
section
variable {w u v : World} {p s c l : Int} {st sk re fe ag : Bool} {p1 p2 : Option Addr} {pn1 pc1 pn2 pc2 : Nat} {pp : Int} {s0 b5 c5 b6 c6 : Nat} {xs : List Int} {y0 y1 : Int}
theorem EmJ.below (h : EmJ w p s c l st sk re fe ag p1 p2 pn1 pc1 pn2 pc2 pp s0 b5 c5 b6 c6 xs y0 y1 u) (k : Below u.heap.size u v) : EmJ w p s c l st sk re fe ag p1 p2 pn1 pc1 pn2 pc2 pp s0 b5 c5 b6 c6 xs y0 y1 v :=
  ⟨h.po.below k, h.ru.below k, h.z.below k, h.s.below k, h.o.below k, Nat.lt_of_lt_of_le h.l5 k.size, Nat.lt_of_lt_of_le h.l6 k.size, h.k5, h.k6, h.d5, h.d6, h.ms, h.be.trans (k.mono h.be.size)⟩
theorem EmJ.set0 (h : EmJ w p s c l st sk re fe ag p1 p2 pn1 pc1 pn2 pc2 pp s0 b5 c5 b6 c6 xs y0 y1 u) (y : Int) : EmJ w p s c l st sk re fe ag p1 p2 pn1 pc1 pn2 pc2 pp s0 b5 c5 b6 c6 xs y y1 (u.setCell ⟨b6, 0, none⟩ (.int .i64 y)) := by
  have hb : But b6 u (u.setCell ⟨b6, 0, none⟩ (.int .i64 y)) := (But.refl b6 u).setCell rfl _
  have h6 := h.o.o2.new
  have hm := h.ms
  exact ⟨h.po.but hb (by omega), h.ru.but hb (by omega), h.z.but hb (by omega), h.s.but hb h.d6, ⟨h.o.o1.but hb h.o.ne, h.o.o2.set (i := 0) (by simp) y, h.o.ne, h.o.l1, rfl⟩, by simpa using h.l5, by simpa using h.l6, h.k5, h.k6, h.d5, h.d6, h.ms, h.be.setCell (p := ⟨b6, 0, none⟩) (by show w.heap.size ≤ b6; omega) _⟩
theorem EmJ.set1 (h : EmJ w p s c l st sk re fe ag p1 p2 pn1 pc1 pn2 pc2 pp s0 b5 c5 b6 c6 xs y0 y1 u) (y : Int) : EmJ w p s c l st sk re fe ag p1 p2 pn1 pc1 pn2 pc2 pp s0 b5 c5 b6 c6 xs y0 y (u.setCell ⟨b6, 1, none⟩ (.int .i64 y)) := by
  have hb : But b6 u (u.setCell ⟨b6, 1, none⟩ (.int .i64 y)) := (But.refl b6 u).setCell rfl _
  have h6 := h.o.o2.new
  have hm := h.ms
  exact ⟨h.po.but hb (by omega), h.ru.but hb (by omega), h.z.but hb (by omega), h.s.but hb h.d6, ⟨h.o.o1.but hb h.o.ne, h.o.o2.set (i := 1) (by simp) y, h.o.ne, h.o.l1, rfl⟩, by simpa using h.l5, by simpa using h.l6, h.k5, h.k6, h.d5, h.d6, h.ms, h.be.setCell (p := ⟨b6, 1, none⟩) (by show w.heap.size ≤ b6; omega) _⟩
theorem EmJ.wipe (h : EmJ w p s c l st sk re fe ag p1 p2 pn1 pc1 pn2 pc2 pp s0 b5 c5 b6 c6 xs y0 y1 u) : EmJ w p s c l st sk re fe ag p1 p2 pn1 pc1 pn2 pc2 pp s0 b5 c5 b6 c6 (List.replicate pn1 0) y0 y1 (u.setCells b5 0 (List.replicate pn1 (.int .i64 0))) := by
  have hb := but_scs b5 (List.replicate pn1 (.int .i64 0)) 0 u
  have h5 := h.o.o1.new
  have hm := h.ms
  have hw := OutN.wipe xs [] u h.o.o1
  rw [h.o.l1] at hw
  exact ⟨h.po.but hb (by omega), h.ru.but hb (by omega), h.z.but hb (by omega), h.s.but hb h.d5, ⟨hw, h.o.o2.but hb (fun e => h.o.ne e.symm), h.o.ne, by simp, rfl⟩, Nat.lt_of_lt_of_le h.l5 hb.size, Nat.lt_of_lt_of_le h.l6 hb.size, h.k5, h.k6, h.d5, h.d6, h.ms, But.lift h.be hb (by omega)⟩
theorem EmJ.at0 (h : EmJ w p s c l st sk re fe ag p1 p2 pn1 pc1 pn2 pc2 pp s0 b5 c5 b6 c6 xs y0 y1 u) : u.cell? ⟨b6, 0, none⟩ = some (.int .i64 y0) ∧ u.frozen? ⟨b6, 0, none⟩ = false := ⟨h.o.o2.at0 (i := 0) (by simp), (h.o.o2.free (by simp)).2 0⟩
theorem EmJ.at1 (h : EmJ w p s c l st sk re fe ag p1 p2 pn1 pc1 pn2 pc2 pp s0 b5 c5 b6 c6 xs y0 y1 u) : u.cell? ⟨b6, 1, none⟩ = some (.int .i64 y1) ∧ u.frozen? ⟨b6, 1, none⟩ = false := ⟨h.o.o2.at0 (i := 1) (by simp), (h.o.o2.free (by simp)).2 1⟩
end
/-- The boxes at the start. -/
structure EmS (w : World) (p s c l : Int) (st sk re fe ag : Bool) (p1 p2 : Option Addr) (pn1 pc1 pn2 pc2 : Nat) (pp : Int) (a b : Value) (u : World) : Prop where
  po : PoAt u w.heap.size p1 p2 pn1 pc1 pn2 pc2 pp
  ru : RuAt u (w.heap.size + 1) p s c l st sk re fe ag
  a0 : u.cell? ⟨w.heap.size + 1 + 1, 0, none⟩ = some a
  a1 : u.cell? ⟨w.heap.size + 1 + 1, 1, none⟩ = some b
  z : ZeroP u (w.heap.size + 1 + 1 + 1)
  big : w.heap.size + 4 ≤ u.heap.size
  be : Below w.heap.size w u
theorem EmS.below {w u v : World} {p s c l : Int} {st sk re fe ag : Bool} {p1 p2 : Option Addr} {pn1 pc1 pn2 pc2 : Nat} {pp : Int} {a b : Value} (h : EmS w p s c l st sk re fe ag p1 p2 pn1 pc1 pn2 pc2 pp a b u) (k : Below u.heap.size u v) : EmS w p s c l st sk re fe ag p1 p2 pn1 pc1 pn2 pc2 pp a b v :=
  have hb := h.big
  have e := fun o => k.cell (p := ⟨w.heap.size + 1 + 1, o, none⟩) (by show w.heap.size + 1 + 1 < _; omega)
  ⟨h.po.below k, h.ru.below k, (e 0).trans h.a0, (e 1).trans h.a1, h.z.below k, Nat.le_trans h.big k.size, h.be.trans (k.mono h.be.size)⟩
theorem em_start (p s c l : Int) (st sk re fe ag : Bool) (p1 p2 : Option Addr) (pn1 pc1 pn2 pc2 : Nat) (pp : Int) (a b : Value) (w : World) (T1 T2 T3 T4 : TypeId) (X : World) (hX : X = (((w.alloc (.cells #[.slice p1 pn1 pc1, .slice p2 pn2 pc2, .int .i64 pp] T1)).alloc (.cells #[.int .i64 p, .int .i64 s, .bool st, .bool sk, .bool re, .bool fe, .bool ag, .int .i64 c, .int .i64 l] T2)).alloc (.cells #[a, b] T3)).alloc (.cells #[.slice none 0 0, .slice none 0 0, .int .i64 0] T4)) : EmS w p s c l st sk re fe ag p1 p2 pn1 pc1 pn2 pc2 pp a b X := by
  subst hX
  refine ⟨(((po_new p1 p2 pn1 pc1 pn2 pc2 pp w T1).below (al1 _ _)).below (al1 _ _)).below (al1 _ _), ?_, by go_simp, by go_simp, ?_, by simp, ((((Below.refl _ _).alloc (Nat.le_refl _) _).alloc (by simp) _).alloc (by simp; omega) _).alloc (by simp; omega) _⟩
  · have := ((ru_new p s c l st sk re fe ag (w.alloc (.cells #[.slice p1 pn1 pc1, .slice p2 pn2 pc2, .int .i64 pp] T1)) T2).below (al1 _ (.cells #[a, b] T3))).below (al1 _ (.cells #[.slice none 0 0, .slice none 0 0, .int .i64 0] T4))
    simpa using this
  · have := zero_new (((w.alloc (.cells #[.slice p1 pn1 pc1, .slice p2 pn2 pc2, .int .i64 pp] T1)).alloc (.cells #[.int .i64 p, .int .i64 s, .bool st, .bool sk, .bool re, .bool fe, .bool ag, .int .i64 c, .int .i64 l] T2)).alloc (.cells #[a, b] T3)) T4
    simpa using this
theorem em_mk (p s c l : Int) (st sk re fe ag : Bool) (T : TypeId) {w u : World} {p1 p2 : Option Addr} {pn1 pc1 pn2 pc2 : Nat} {pp : Int} {a b : Value} {b5 c5 b6 c6 : Nat} {xs : List Int} {y0 y1 : Int} (h : EmS w p s c l st sk re fe ag p1 p2 pn1 pc1 pn2 pc2 pp a b u) (ho : PosO u (w.heap.size + 4) (some ⟨b5, 0, none⟩) (some ⟨b6, 0, none⟩) b5 b6 pn1 2 xs [y0, y1]) (l5 : b5 < u.heap.size) (l6 : b6 < u.heap.size) (k5 : pn1 ≤ c5) (k6 : 2 ≤ c6) :
    EmJ w p s c l st sk re fe ag p1 p2 pn1 pc1 pn2 pc2 pp u.heap.size b5 c5 b6 c6 xs y0 y1 (u.alloc (.cells #[.slice (some ⟨b5, 0, none⟩) pn1 c5, .slice (some ⟨b6, 0, none⟩) 2 c6, .int .i64 pp] T)) :=
  ⟨h.po.below (al1 _ _), h.ru.below (al1 _ _), h.z.below (al1 _ _), po_new _ _ _ _ _ _ _ u T, ho.below (al1 _ _), by simp; omega, by simp; omega, k5, k6, by omega, by omega, h.big, h.be.alloc h.be.size _⟩
theorem zero64 : ∀ w : World, (zeroValue 2).run Try.prog w = .ok (.int .i64 0) w := fun _ => by kernel_rfl
set_option maxHeartbeats 8000000 in
set_option maxRecDepth 100000 in
theorem emp_any01 (P : Nat) (s c l : Int) (st sk re fe ag : Bool) (p1 p2 : Option Addr) (pn1 pc1 pc2 : Nat) (pp : Int) (xs : List Int) (y0 y1 h0 h1 : Int) (w : World) (h : PosR w p1 p2 pn1 2 xs [y0, y1]) (hs : seedB xs [y0, y1] = true) (hP : 2 ≤ P) (hP2 : P ≤ 8) (hn : pn1 = 2 * P) (hcap : pn1 ≤ pc1) (e0 : tot (halfL xs P 0) = h0) (e1 : tot (halfL xs P 1) = h1) :
    Calls Try.prog 21 #[.agg #[.slice p1 pn1 pc1, .slice p2 2 pc2, .int .i64 pp], .agg #[.int .i64 P, .int .i64 s, .bool st, .bool sk, .bool re, .bool fe, .bool ag, .int .i64 c, .int .i64 l], .agg #[.int .i64 0, .int .i64 1]] w (PosQ pn1 2 pp (List.replicate pn1 0) [y0 + h0, y1 + h1] w) := by
  obtain ⟨q1, q2, q3⟩ := seedB_parts hs
  have q4 := posB_tot q1
  simp only [posB, List.all_cons, List.all_nil, Bool.and_true, Bool.and_eq_true, decide_eq_true_eq] at q2
  obtain ⟨r0, r1⟩ := q2
  rw [tot2] at q3
  have hlen : xs.length = 2 * P := h.l1.trans hn
  have u0 := half_tot (xs := xs) (P := P) (player := 0) hlen (.inl rfl) q1
  have u1 := half_tot (xs := xs) (P := P) (player := 1) hlen (.inr rfl) q1
  have v0 := posB_tot u0.1
  have v1 := posB_tot u1.1
  have hsum := half_sum hlen
  rw [e0] at v0 u0 hsum
  rw [e1] at v1 u1 hsum
  have g0 : 0 ≤ h0 ∧ h0 ≤ 96 := by omega
  have g1 : 0 ≤ h1 ∧ h1 ≤ 96 := by omega
  have g2 : y0 + h0 + h1 ≤ 96 := by omega
  have g3 : y1 + h0 + h1 ≤ 96 := by omega
  have hne : xs ≠ [] := by intro e; rw [e] at hlen; simp at hlen; omega
  have HSd : Hid (∀ (player : Int) u, Below w.heap.size w u → (player = 0 ∨ player = 1) → Calls Try.prog 41 #[.agg #[.slice p1 pn1 pc1, .slice p2 2 pc2, .int .i64 pp], .agg #[.int .i64 P, .int .i64 s, .bool st, .bool sk, .bool re, .bool fe, .bool ag, .int .i64 c, .int .i64 l], .int .i64 player] u (SideP xs P player u)) :=
    Lib.hid (fun player u hu hp => side_any P s c l st sk re fe ag p1 p2 pn1 pc1 2 pc2 pp xs player u h.l1 (h.r1.below hu) hP hP2 hn hcap hp)
  have HSm0 : Hid (∀ a c u, RowN u a (halfL xs P 0) → Calls Try.prog 32 #[.slice a P c] u fun e w' => e = .returned (.int .i64 h0) ∧ u = w') :=
    Lib.hid (fun a c u hr => by rw [← e0]; exact sumOf_any a c P _ u (half_len hlen (.inl rfl)) hr u0.1 (by rw [e0]; omega))
  have HSm1 : Hid (∀ a c u, RowN u a (halfL xs P 1) → Calls Try.prog 32 #[.slice a P c] u fun e w' => e = .returned (.int .i64 h1) ∧ u = w') :=
    Lib.hid (fun a c u hr => by rw [← e1]; exact sumOf_any a c P _ u (half_len hlen (.inr rfl)) hr u1.1 (by rw [e1]; omega))
  obtain ⟨w4, hw4⟩ : ∃ w4, w4 = (((w.alloc (.cells #[.slice p1 pn1 pc1, .slice p2 2 pc2, .int .i64 pp] 28)).alloc (.cells #[.int .i64 P, .int .i64 s, .bool st, .bool sk, .bool re, .bool fe, .bool ag, .int .i64 c, .int .i64 l] 25)).alloc (.cells #[.int .i64 0, .int .i64 1] 41)).alloc (.cells #[.slice none 0 0, .slice none 0 0, .int .i64 0] 28) := ⟨_, rfl⟩
  have HS4 := Lib.hid (em_start (P : Int) s c l st sk re fe ag p1 p2 pn1 pc1 2 pc2 pp (.int .i64 0) (.int .i64 1) w _ _ _ _ w4 hw4)
  have H := Lib.hid h
  have HNE := Lib.hid hne
  have Hn := Lib.hid hn
  clear h hs q1 u0 u1 e0 e1 hne hn hlen hsum v0 v1 q4
  have i0 : ∀ (u v : Value) (w : World), (Instr.index 41 (.agg #[u, v]) (.int .i64 0)).run Try.prog w = .ok u w := fun _ _ _ => by kernel_rfl
  have i1 : ∀ (u v : Value) (w : World), (Instr.index 41 (.agg #[u, v]) (.int .i64 1)).run Try.prog w = .ok v w := fun _ _ _ => by kernel_rfl
  go_enter Try.func21, Try.ntmps21
  go_wp2_with fail
  rw [← hw4]
  have HB0 := Lib.hid HS4.out.be
  refine (copy_any p1 p2 pn1 pc1 2 pc2 pp xs [y0, y1] w4 (H.out.below HB0.out) HNE.out (by simp)).mono ?_
  rintro e w5 ⟨b5, c5, b6, c6, rfl, ho, l5, l6, k5, k6, hb⟩
  clear hw4 HB0
  have HS5 := Lib.hid (HS4.out.below hb)
  have a0 := HS5.out.a0
  have a1 := HS5.out.a1
  have big5 : w.heap.size + 1 + 1 < w5.heap.size := by have := HS5.out.big; omega
  have hJ0 := em_mk (P : Int) s c l st sk re fe ag 28 HS5.out (ho.lower HS4.out.big) l5 l6 k5 k6
  have HJ0 := Lib.hid hJ0
  clear hb ho l5 l6 hJ0
  go_wp2_with fail
  generalize w5.alloc (.cells #[.slice (some ⟨b5, 0, none⟩) pn1 c5, .slice (some ⟨b6, 0, none⟩) 2 c6, .int .i64 pp] 28) = w6 at *
  generalize w5.heap.size = s0 at *
  clear a0 a1 big5 HS5 HS4
  go_loopw [13] (fun i wr => (i = .int .i64 0 ∧ EmJ w (P : Int) s c l st sk re fe ag p1 p2 pn1 pc1 2 pc2 pp s0 b5 c5 b6 c6 xs y0 y1 wr) ∨ (i = .int .i64 1 ∧ EmJ w (P : Int) s c l st sk re fe ag p1 p2 pn1 pc1 2 pc2 pp s0 b5 c5 b6 c6 xs (y0 + h0) (y1) wr) ∨ (i = .int .i64 2 ∧ EmJ w (P : Int) s c l st sk re fe ag p1 p2 pn1 pc1 2 pc2 pp s0 b5 c5 b6 c6 xs (y0 + h0) (y1 + h1) wr)) (fun i _ => 2 - (intOf i).toNat)
  case atStart => exact .inl ⟨rfl, HJ0.out⟩
  case round =>
    clear HJ0
    rcases hrel with ⟨rfl, hJ⟩ | ⟨rfl, hJ⟩ | ⟨rfl, hJ⟩
    · have HJ := Lib.hid hJ
      clear hJ
      have hw : IntKind.i64.wrap (y0 + h0) = y0 + h0 := IntWalk.i64_in _ ⟨by omega, by omega⟩
      have HW := Lib.hid hw
      go_upto_region 5 with fail
      obtain ⟨_, t0, t1, t2⟩ := HJ.out.s
      obtain ⟨_, r0', r1', r2', r3', r4', r5', r6', r7', r8'⟩ := HJ.out.ru
      obtain ⟨_, x0, x1, x2⟩ := HJ.out.po
      obtain ⟨z0, zf⟩ := HJ.out.at0
      have HD := Lib.hid (HJ.out.below (Below.refl _ _).drew)
      go_region_law ((first
        | (go_simp; go_at_call 41; (with_reducible refine (HSd.out 0 _ HD.out.be (by decide)).mono ?_); rintro e w8 ⟨a3, c3, rfl, hr3, hc3, hb8⟩; have HX := Lib.hid (HD.out.below hb8); obtain ⟨_, t0, t1, t2⟩ := HX.out.s; obtain ⟨z0, zf⟩ := HX.out.at0; have HR3 := Lib.hid hr3; clear hb8 hr3)
        | (go_simp; go_at_call 32; (with_reducible refine (HSm0.out _ _ _ HR3.out).mono ?_); rintro e w9 ⟨rfl, rfl⟩)))
      all_goals
        have HN := Lib.hid (HX.out.set0 (y0 + h0))
        clear HX HD HR3 HJ r0' r1' r2' r3' r4' r5' r6' r7' r8' x0 x1 x2
        generalize w8.setCell ⟨b6, 0, none⟩ (.int .i64 (y0 + h0)) = W8 at *
        clear z0 zf t0 t1 t2
        go_wp2_with fail
        go_roundw
        case rel => exact .inr (.inl ⟨rfl, HN.out⟩)
        case measure => simp [intOf]
    · have HJ := Lib.hid hJ
      clear hJ
      have hw : IntKind.i64.wrap ((y1) + h1) = (y1) + h1 := IntWalk.i64_in _ ⟨by omega, by omega⟩
      have HW := Lib.hid hw
      go_upto_region 5 with fail
      obtain ⟨_, t0, t1, t2⟩ := HJ.out.s
      obtain ⟨_, r0', r1', r2', r3', r4', r5', r6', r7', r8'⟩ := HJ.out.ru
      obtain ⟨_, x0, x1, x2⟩ := HJ.out.po
      obtain ⟨z0, zf⟩ := HJ.out.at1
      have HD := Lib.hid (HJ.out.below (Below.refl _ _).drew)
      go_region_law ((first
        | (go_simp; go_at_call 41; (with_reducible refine (HSd.out 1 _ HD.out.be (by decide)).mono ?_); rintro e w8 ⟨a3, c3, rfl, hr3, hc3, hb8⟩; have HX := Lib.hid (HD.out.below hb8); obtain ⟨_, t0, t1, t2⟩ := HX.out.s; obtain ⟨z0, zf⟩ := HX.out.at1; have HR3 := Lib.hid hr3; clear hb8 hr3)
        | (go_simp; go_at_call 32; (with_reducible refine (HSm1.out _ _ _ HR3.out).mono ?_); rintro e w9 ⟨rfl, rfl⟩)))
      all_goals
        have HN := Lib.hid (HX.out.set1 ((y1) + h1))
        clear HX HD HR3 HJ r0' r1' r2' r3' r4' r5' r6' r7' r8' x0 x1 x2
        generalize w8.setCell ⟨b6, 1, none⟩ (.int .i64 ((y1) + h1)) = W8 at *
        clear z0 zf t0 t1 t2
        go_wp2_with fail
        go_roundw
        case rel => exact .inr (.inr ⟨rfl, HN.out⟩)
        case measure => simp [intOf]
    · have HJ := Lib.hid hJ
      clear hJ
      obtain ⟨_, t0, t1, t2⟩ := HJ.out.s
      have hfree := HJ.out.o.o1.free (by intro e; have h1 := HJ.out.o.l1; have h2 := Hn.out; rw [e] at h1; simp at h1; omega)
      have hcl : ∀ ty, (Builtin.clear_ #[26] ty #[.slice (some ⟨b5, 0, none⟩) pn1 c5]).run Try.prog wr = .ok (.tuple #[]) (wr.setCells b5 0 (List.replicate pn1 (.int .i64 0))) := fun ty =>
        Lib.run_clear_slice wr _ _ ty _ Try.underlying26 zero64 rfl rfl b5 0 pn1 c5 (by have := Hn.out; omega) (fun j hj => by rw [Nat.zero_add, HJ.out.o.o1.at0 (i := j) (by rw [HJ.out.o.l1]; exact hj)]; rfl) (fun j hj => hfree.2 _)
      clear hfree
      go_upto_region 8 with fail
      have HN := Lib.hid HJ.out.wipe
      clear HJ hcl t0 t1 t2
      generalize wr.setCells b5 0 (List.replicate pn1 (.int .i64 0)) = W8 at *
      obtain ⟨_, t0, t1, t2⟩ := HN.out.s
      obtain ⟨zl, z0, z1, z2, zf⟩ := HN.out.z
      have f0 := zf 0
      have f1 := zf 1
      have f2 := zf 2
      clear zf
      go_wp2_with fail
      have hn5 := HN.out.o.o1.new
      have hn6 := HN.out.o.o2.new
      refine bodyPost_ret (v := .agg #[.slice (some ⟨b5, 0, none⟩) pn1 c5, .slice (some ⟨b6, 0, none⟩) 2 c6, .int .i64 pp]) (by simp [results, Try.results21, go_sem, z0, z1, z2]) rfl ⟨b5, c5, b6, c6, rfl, (HN.out.o.set3 _ _ _ (by omega) (by omega)).lower (by omega), by simpa using HN.out.l5, by simpa using HN.out.l6, HN.out.k5, HN.out.k6, OnW.set3 (show OnW w W8 from HN.out.be) (by omega) _ _ _⟩
set_option maxHeartbeats 8000000 in
set_option maxRecDepth 100000 in
theorem emp_any00 (P : Nat) (s c l : Int) (st sk re fe ag : Bool) (p1 p2 : Option Addr) (pn1 pc1 pc2 : Nat) (pp : Int) (xs : List Int) (y0 y1 h0 h1 : Int) (w : World) (h : PosR w p1 p2 pn1 2 xs [y0, y1]) (hs : seedB xs [y0, y1] = true) (hP : 2 ≤ P) (hP2 : P ≤ 8) (hn : pn1 = 2 * P) (hcap : pn1 ≤ pc1) (e0 : tot (halfL xs P 0) = h0) (e1 : tot (halfL xs P 1) = h1) :
    Calls Try.prog 21 #[.agg #[.slice p1 pn1 pc1, .slice p2 2 pc2, .int .i64 pp], .agg #[.int .i64 P, .int .i64 s, .bool st, .bool sk, .bool re, .bool fe, .bool ag, .int .i64 c, .int .i64 l], .agg #[.int .i64 0, .int .i64 0]] w (PosQ pn1 2 pp (List.replicate pn1 0) [y0 + h0 + h1, y1] w) := by
  obtain ⟨q1, q2, q3⟩ := seedB_parts hs
  have q4 := posB_tot q1
  simp only [posB, List.all_cons, List.all_nil, Bool.and_true, Bool.and_eq_true, decide_eq_true_eq] at q2
  obtain ⟨r0, r1⟩ := q2
  rw [tot2] at q3
  have hlen : xs.length = 2 * P := h.l1.trans hn
  have u0 := half_tot (xs := xs) (P := P) (player := 0) hlen (.inl rfl) q1
  have u1 := half_tot (xs := xs) (P := P) (player := 1) hlen (.inr rfl) q1
  have v0 := posB_tot u0.1
  have v1 := posB_tot u1.1
  have hsum := half_sum hlen
  rw [e0] at v0 u0 hsum
  rw [e1] at v1 u1 hsum
  have g0 : 0 ≤ h0 ∧ h0 ≤ 96 := by omega
  have g1 : 0 ≤ h1 ∧ h1 ≤ 96 := by omega
  have g2 : y0 + h0 + h1 ≤ 96 := by omega
  have g3 : y1 + h0 + h1 ≤ 96 := by omega
  have hne : xs ≠ [] := by intro e; rw [e] at hlen; simp at hlen; omega
  have HSd : Hid (∀ (player : Int) u, Below w.heap.size w u → (player = 0 ∨ player = 1) → Calls Try.prog 41 #[.agg #[.slice p1 pn1 pc1, .slice p2 2 pc2, .int .i64 pp], .agg #[.int .i64 P, .int .i64 s, .bool st, .bool sk, .bool re, .bool fe, .bool ag, .int .i64 c, .int .i64 l], .int .i64 player] u (SideP xs P player u)) :=
    Lib.hid (fun player u hu hp => side_any P s c l st sk re fe ag p1 p2 pn1 pc1 2 pc2 pp xs player u h.l1 (h.r1.below hu) hP hP2 hn hcap hp)
  have HSm0 : Hid (∀ a c u, RowN u a (halfL xs P 0) → Calls Try.prog 32 #[.slice a P c] u fun e w' => e = .returned (.int .i64 h0) ∧ u = w') :=
    Lib.hid (fun a c u hr => by rw [← e0]; exact sumOf_any a c P _ u (half_len hlen (.inl rfl)) hr u0.1 (by rw [e0]; omega))
  have HSm1 : Hid (∀ a c u, RowN u a (halfL xs P 1) → Calls Try.prog 32 #[.slice a P c] u fun e w' => e = .returned (.int .i64 h1) ∧ u = w') :=
    Lib.hid (fun a c u hr => by rw [← e1]; exact sumOf_any a c P _ u (half_len hlen (.inr rfl)) hr u1.1 (by rw [e1]; omega))
  obtain ⟨w4, hw4⟩ : ∃ w4, w4 = (((w.alloc (.cells #[.slice p1 pn1 pc1, .slice p2 2 pc2, .int .i64 pp] 28)).alloc (.cells #[.int .i64 P, .int .i64 s, .bool st, .bool sk, .bool re, .bool fe, .bool ag, .int .i64 c, .int .i64 l] 25)).alloc (.cells #[.int .i64 0, .int .i64 0] 41)).alloc (.cells #[.slice none 0 0, .slice none 0 0, .int .i64 0] 28) := ⟨_, rfl⟩
  have HS4 := Lib.hid (em_start (P : Int) s c l st sk re fe ag p1 p2 pn1 pc1 2 pc2 pp (.int .i64 0) (.int .i64 0) w _ _ _ _ w4 hw4)
  have H := Lib.hid h
  have HNE := Lib.hid hne
  have Hn := Lib.hid hn
  clear h hs q1 u0 u1 e0 e1 hne hn hlen hsum v0 v1 q4
  have i0 : ∀ (u v : Value) (w : World), (Instr.index 41 (.agg #[u, v]) (.int .i64 0)).run Try.prog w = .ok u w := fun _ _ _ => by kernel_rfl
  have i1 : ∀ (u v : Value) (w : World), (Instr.index 41 (.agg #[u, v]) (.int .i64 1)).run Try.prog w = .ok v w := fun _ _ _ => by kernel_rfl
  go_enter Try.func21, Try.ntmps21
  go_wp2_with fail
  rw [← hw4]
  have HB0 := Lib.hid HS4.out.be
  refine (copy_any p1 p2 pn1 pc1 2 pc2 pp xs [y0, y1] w4 (H.out.below HB0.out) HNE.out (by simp)).mono ?_
  rintro e w5 ⟨b5, c5, b6, c6, rfl, ho, l5, l6, k5, k6, hb⟩
  clear hw4 HB0
  have HS5 := Lib.hid (HS4.out.below hb)
  have a0 := HS5.out.a0
  have a1 := HS5.out.a1
  have big5 : w.heap.size + 1 + 1 < w5.heap.size := by have := HS5.out.big; omega
  have hJ0 := em_mk (P : Int) s c l st sk re fe ag 28 HS5.out (ho.lower HS4.out.big) l5 l6 k5 k6
  have HJ0 := Lib.hid hJ0
  clear hb ho l5 l6 hJ0
  go_wp2_with fail
  generalize w5.alloc (.cells #[.slice (some ⟨b5, 0, none⟩) pn1 c5, .slice (some ⟨b6, 0, none⟩) 2 c6, .int .i64 pp] 28) = w6 at *
  generalize w5.heap.size = s0 at *
  clear a0 a1 big5 HS5 HS4
  go_loopw [13] (fun i wr => (i = .int .i64 0 ∧ EmJ w (P : Int) s c l st sk re fe ag p1 p2 pn1 pc1 2 pc2 pp s0 b5 c5 b6 c6 xs y0 y1 wr) ∨ (i = .int .i64 1 ∧ EmJ w (P : Int) s c l st sk re fe ag p1 p2 pn1 pc1 2 pc2 pp s0 b5 c5 b6 c6 xs (y0 + h0) (y1) wr) ∨ (i = .int .i64 2 ∧ EmJ w (P : Int) s c l st sk re fe ag p1 p2 pn1 pc1 2 pc2 pp s0 b5 c5 b6 c6 xs (y0 + h0 + h1) (y1) wr)) (fun i _ => 2 - (intOf i).toNat)
  case atStart => exact .inl ⟨rfl, HJ0.out⟩
  case round =>
    clear HJ0
    rcases hrel with ⟨rfl, hJ⟩ | ⟨rfl, hJ⟩ | ⟨rfl, hJ⟩
    · have HJ := Lib.hid hJ
      clear hJ
      have hw : IntKind.i64.wrap (y0 + h0) = y0 + h0 := IntWalk.i64_in _ ⟨by omega, by omega⟩
      have HW := Lib.hid hw
      go_upto_region 5 with fail
      obtain ⟨_, t0, t1, t2⟩ := HJ.out.s
      obtain ⟨_, r0', r1', r2', r3', r4', r5', r6', r7', r8'⟩ := HJ.out.ru
      obtain ⟨_, x0, x1, x2⟩ := HJ.out.po
      obtain ⟨z0, zf⟩ := HJ.out.at0
      have HD := Lib.hid (HJ.out.below (Below.refl _ _).drew)
      go_region_law ((first
        | (go_simp; go_at_call 41; (with_reducible refine (HSd.out 0 _ HD.out.be (by decide)).mono ?_); rintro e w8 ⟨a3, c3, rfl, hr3, hc3, hb8⟩; have HX := Lib.hid (HD.out.below hb8); obtain ⟨_, t0, t1, t2⟩ := HX.out.s; obtain ⟨z0, zf⟩ := HX.out.at0; have HR3 := Lib.hid hr3; clear hb8 hr3)
        | (go_simp; go_at_call 32; (with_reducible refine (HSm0.out _ _ _ HR3.out).mono ?_); rintro e w9 ⟨rfl, rfl⟩)))
      all_goals
        have HN := Lib.hid (HX.out.set0 (y0 + h0))
        clear HX HD HR3 HJ r0' r1' r2' r3' r4' r5' r6' r7' r8' x0 x1 x2
        generalize w8.setCell ⟨b6, 0, none⟩ (.int .i64 (y0 + h0)) = W8 at *
        clear z0 zf t0 t1 t2
        go_wp2_with fail
        go_roundw
        case rel => exact .inr (.inl ⟨rfl, HN.out⟩)
        case measure => simp [intOf]
    · have HJ := Lib.hid hJ
      clear hJ
      have hw : IntKind.i64.wrap ((y0 + h0) + h1) = (y0 + h0) + h1 := IntWalk.i64_in _ ⟨by omega, by omega⟩
      have HW := Lib.hid hw
      go_upto_region 5 with fail
      obtain ⟨_, t0, t1, t2⟩ := HJ.out.s
      obtain ⟨_, r0', r1', r2', r3', r4', r5', r6', r7', r8'⟩ := HJ.out.ru
      obtain ⟨_, x0, x1, x2⟩ := HJ.out.po
      obtain ⟨z0, zf⟩ := HJ.out.at0
      have HD := Lib.hid (HJ.out.below (Below.refl _ _).drew)
      go_region_law ((first
        | (go_simp; go_at_call 41; (with_reducible refine (HSd.out 1 _ HD.out.be (by decide)).mono ?_); rintro e w8 ⟨a3, c3, rfl, hr3, hc3, hb8⟩; have HX := Lib.hid (HD.out.below hb8); obtain ⟨_, t0, t1, t2⟩ := HX.out.s; obtain ⟨z0, zf⟩ := HX.out.at0; have HR3 := Lib.hid hr3; clear hb8 hr3)
        | (go_simp; go_at_call 32; (with_reducible refine (HSm1.out _ _ _ HR3.out).mono ?_); rintro e w9 ⟨rfl, rfl⟩)))
      all_goals
        have HN := Lib.hid (HX.out.set0 ((y0 + h0) + h1))
        clear HX HD HR3 HJ r0' r1' r2' r3' r4' r5' r6' r7' r8' x0 x1 x2
        generalize w8.setCell ⟨b6, 0, none⟩ (.int .i64 ((y0 + h0) + h1)) = W8 at *
        clear z0 zf t0 t1 t2
        go_wp2_with fail
        go_roundw
        case rel => exact .inr (.inr ⟨rfl, HN.out⟩)
        case measure => simp [intOf]
    · have HJ := Lib.hid hJ
      clear hJ
      obtain ⟨_, t0, t1, t2⟩ := HJ.out.s
      have hfree := HJ.out.o.o1.free (by intro e; have h1 := HJ.out.o.l1; have h2 := Hn.out; rw [e] at h1; simp at h1; omega)
      have hcl : ∀ ty, (Builtin.clear_ #[26] ty #[.slice (some ⟨b5, 0, none⟩) pn1 c5]).run Try.prog wr = .ok (.tuple #[]) (wr.setCells b5 0 (List.replicate pn1 (.int .i64 0))) := fun ty =>
        Lib.run_clear_slice wr _ _ ty _ Try.underlying26 zero64 rfl rfl b5 0 pn1 c5 (by have := Hn.out; omega) (fun j hj => by rw [Nat.zero_add, HJ.out.o.o1.at0 (i := j) (by rw [HJ.out.o.l1]; exact hj)]; rfl) (fun j hj => hfree.2 _)
      clear hfree
      go_upto_region 8 with fail
      have HN := Lib.hid HJ.out.wipe
      clear HJ hcl t0 t1 t2
      generalize wr.setCells b5 0 (List.replicate pn1 (.int .i64 0)) = W8 at *
      obtain ⟨_, t0, t1, t2⟩ := HN.out.s
      obtain ⟨zl, z0, z1, z2, zf⟩ := HN.out.z
      have f0 := zf 0
      have f1 := zf 1
      have f2 := zf 2
      clear zf
      go_wp2_with fail
      have hn5 := HN.out.o.o1.new
      have hn6 := HN.out.o.o2.new
      refine bodyPost_ret (v := .agg #[.slice (some ⟨b5, 0, none⟩) pn1 c5, .slice (some ⟨b6, 0, none⟩) 2 c6, .int .i64 pp]) (by simp [results, Try.results21, go_sem, z0, z1, z2]) rfl ⟨b5, c5, b6, c6, rfl, (HN.out.o.set3 _ _ _ (by omega) (by omega)).lower (by omega), by simpa using HN.out.l5, by simpa using HN.out.l6, HN.out.k5, HN.out.k6, OnW.set3 (show OnW w W8 from HN.out.be) (by omega) _ _ _⟩
set_option maxHeartbeats 8000000 in
set_option maxRecDepth 100000 in
theorem emp_any11 (P : Nat) (s c l : Int) (st sk re fe ag : Bool) (p1 p2 : Option Addr) (pn1 pc1 pc2 : Nat) (pp : Int) (xs : List Int) (y0 y1 h0 h1 : Int) (w : World) (h : PosR w p1 p2 pn1 2 xs [y0, y1]) (hs : seedB xs [y0, y1] = true) (hP : 2 ≤ P) (hP2 : P ≤ 8) (hn : pn1 = 2 * P) (hcap : pn1 ≤ pc1) (e0 : tot (halfL xs P 0) = h0) (e1 : tot (halfL xs P 1) = h1) :
    Calls Try.prog 21 #[.agg #[.slice p1 pn1 pc1, .slice p2 2 pc2, .int .i64 pp], .agg #[.int .i64 P, .int .i64 s, .bool st, .bool sk, .bool re, .bool fe, .bool ag, .int .i64 c, .int .i64 l], .agg #[.int .i64 1, .int .i64 1]] w (PosQ pn1 2 pp (List.replicate pn1 0) [y0, y1 + h0 + h1] w) := by
  obtain ⟨q1, q2, q3⟩ := seedB_parts hs
  have q4 := posB_tot q1
  simp only [posB, List.all_cons, List.all_nil, Bool.and_true, Bool.and_eq_true, decide_eq_true_eq] at q2
  obtain ⟨r0, r1⟩ := q2
  rw [tot2] at q3
  have hlen : xs.length = 2 * P := h.l1.trans hn
  have u0 := half_tot (xs := xs) (P := P) (player := 0) hlen (.inl rfl) q1
  have u1 := half_tot (xs := xs) (P := P) (player := 1) hlen (.inr rfl) q1
  have v0 := posB_tot u0.1
  have v1 := posB_tot u1.1
  have hsum := half_sum hlen
  rw [e0] at v0 u0 hsum
  rw [e1] at v1 u1 hsum
  have g0 : 0 ≤ h0 ∧ h0 ≤ 96 := by omega
  have g1 : 0 ≤ h1 ∧ h1 ≤ 96 := by omega
  have g2 : y0 + h0 + h1 ≤ 96 := by omega
  have g3 : y1 + h0 + h1 ≤ 96 := by omega
  have hne : xs ≠ [] := by intro e; rw [e] at hlen; simp at hlen; omega
  have HSd : Hid (∀ (player : Int) u, Below w.heap.size w u → (player = 0 ∨ player = 1) → Calls Try.prog 41 #[.agg #[.slice p1 pn1 pc1, .slice p2 2 pc2, .int .i64 pp], .agg #[.int .i64 P, .int .i64 s, .bool st, .bool sk, .bool re, .bool fe, .bool ag, .int .i64 c, .int .i64 l], .int .i64 player] u (SideP xs P player u)) :=
    Lib.hid (fun player u hu hp => side_any P s c l st sk re fe ag p1 p2 pn1 pc1 2 pc2 pp xs player u h.l1 (h.r1.below hu) hP hP2 hn hcap hp)
  have HSm0 : Hid (∀ a c u, RowN u a (halfL xs P 0) → Calls Try.prog 32 #[.slice a P c] u fun e w' => e = .returned (.int .i64 h0) ∧ u = w') :=
    Lib.hid (fun a c u hr => by rw [← e0]; exact sumOf_any a c P _ u (half_len hlen (.inl rfl)) hr u0.1 (by rw [e0]; omega))
  have HSm1 : Hid (∀ a c u, RowN u a (halfL xs P 1) → Calls Try.prog 32 #[.slice a P c] u fun e w' => e = .returned (.int .i64 h1) ∧ u = w') :=
    Lib.hid (fun a c u hr => by rw [← e1]; exact sumOf_any a c P _ u (half_len hlen (.inr rfl)) hr u1.1 (by rw [e1]; omega))
  obtain ⟨w4, hw4⟩ : ∃ w4, w4 = (((w.alloc (.cells #[.slice p1 pn1 pc1, .slice p2 2 pc2, .int .i64 pp] 28)).alloc (.cells #[.int .i64 P, .int .i64 s, .bool st, .bool sk, .bool re, .bool fe, .bool ag, .int .i64 c, .int .i64 l] 25)).alloc (.cells #[.int .i64 1, .int .i64 1] 41)).alloc (.cells #[.slice none 0 0, .slice none 0 0, .int .i64 0] 28) := ⟨_, rfl⟩
  have HS4 := Lib.hid (em_start (P : Int) s c l st sk re fe ag p1 p2 pn1 pc1 2 pc2 pp (.int .i64 1) (.int .i64 1) w _ _ _ _ w4 hw4)
  have H := Lib.hid h
  have HNE := Lib.hid hne
  have Hn := Lib.hid hn
  clear h hs q1 u0 u1 e0 e1 hne hn hlen hsum v0 v1 q4
  have i0 : ∀ (u v : Value) (w : World), (Instr.index 41 (.agg #[u, v]) (.int .i64 0)).run Try.prog w = .ok u w := fun _ _ _ => by kernel_rfl
  have i1 : ∀ (u v : Value) (w : World), (Instr.index 41 (.agg #[u, v]) (.int .i64 1)).run Try.prog w = .ok v w := fun _ _ _ => by kernel_rfl
  go_enter Try.func21, Try.ntmps21
  go_wp2_with fail
  rw [← hw4]
  have HB0 := Lib.hid HS4.out.be
  refine (copy_any p1 p2 pn1 pc1 2 pc2 pp xs [y0, y1] w4 (H.out.below HB0.out) HNE.out (by simp)).mono ?_
  rintro e w5 ⟨b5, c5, b6, c6, rfl, ho, l5, l6, k5, k6, hb⟩
  clear hw4 HB0
  have HS5 := Lib.hid (HS4.out.below hb)
  have a0 := HS5.out.a0
  have a1 := HS5.out.a1
  have big5 : w.heap.size + 1 + 1 < w5.heap.size := by have := HS5.out.big; omega
  have hJ0 := em_mk (P : Int) s c l st sk re fe ag 28 HS5.out (ho.lower HS4.out.big) l5 l6 k5 k6
  have HJ0 := Lib.hid hJ0
  clear hb ho l5 l6 hJ0
  go_wp2_with fail
  generalize w5.alloc (.cells #[.slice (some ⟨b5, 0, none⟩) pn1 c5, .slice (some ⟨b6, 0, none⟩) 2 c6, .int .i64 pp] 28) = w6 at *
  generalize w5.heap.size = s0 at *
  clear a0 a1 big5 HS5 HS4
  go_loopw [13] (fun i wr => (i = .int .i64 0 ∧ EmJ w (P : Int) s c l st sk re fe ag p1 p2 pn1 pc1 2 pc2 pp s0 b5 c5 b6 c6 xs y0 y1 wr) ∨ (i = .int .i64 1 ∧ EmJ w (P : Int) s c l st sk re fe ag p1 p2 pn1 pc1 2 pc2 pp s0 b5 c5 b6 c6 xs (y0) (y1 + h0) wr) ∨ (i = .int .i64 2 ∧ EmJ w (P : Int) s c l st sk re fe ag p1 p2 pn1 pc1 2 pc2 pp s0 b5 c5 b6 c6 xs (y0) (y1 + h0 + h1) wr)) (fun i _ => 2 - (intOf i).toNat)
  case atStart => exact .inl ⟨rfl, HJ0.out⟩
  case round =>
    clear HJ0
    rcases hrel with ⟨rfl, hJ⟩ | ⟨rfl, hJ⟩ | ⟨rfl, hJ⟩
    · have HJ := Lib.hid hJ
      clear hJ
      have hw : IntKind.i64.wrap (y1 + h0) = y1 + h0 := IntWalk.i64_in _ ⟨by omega, by omega⟩
      have HW := Lib.hid hw
      go_upto_region 5 with fail
      obtain ⟨_, t0, t1, t2⟩ := HJ.out.s
      obtain ⟨_, r0', r1', r2', r3', r4', r5', r6', r7', r8'⟩ := HJ.out.ru
      obtain ⟨_, x0, x1, x2⟩ := HJ.out.po
      obtain ⟨z0, zf⟩ := HJ.out.at1
      have HD := Lib.hid (HJ.out.below (Below.refl _ _).drew)
      go_region_law ((first
        | (go_simp; go_at_call 41; (with_reducible refine (HSd.out 0 _ HD.out.be (by decide)).mono ?_); rintro e w8 ⟨a3, c3, rfl, hr3, hc3, hb8⟩; have HX := Lib.hid (HD.out.below hb8); obtain ⟨_, t0, t1, t2⟩ := HX.out.s; obtain ⟨z0, zf⟩ := HX.out.at1; have HR3 := Lib.hid hr3; clear hb8 hr3)
        | (go_simp; go_at_call 32; (with_reducible refine (HSm0.out _ _ _ HR3.out).mono ?_); rintro e w9 ⟨rfl, rfl⟩)))
      all_goals
        have HN := Lib.hid (HX.out.set1 (y1 + h0))
        clear HX HD HR3 HJ r0' r1' r2' r3' r4' r5' r6' r7' r8' x0 x1 x2
        generalize w8.setCell ⟨b6, 1, none⟩ (.int .i64 (y1 + h0)) = W8 at *
        clear z0 zf t0 t1 t2
        go_wp2_with fail
        go_roundw
        case rel => exact .inr (.inl ⟨rfl, HN.out⟩)
        case measure => simp [intOf]
    · have HJ := Lib.hid hJ
      clear hJ
      have hw : IntKind.i64.wrap ((y1 + h0) + h1) = (y1 + h0) + h1 := IntWalk.i64_in _ ⟨by omega, by omega⟩
      have HW := Lib.hid hw
      go_upto_region 5 with fail
      obtain ⟨_, t0, t1, t2⟩ := HJ.out.s
      obtain ⟨_, r0', r1', r2', r3', r4', r5', r6', r7', r8'⟩ := HJ.out.ru
      obtain ⟨_, x0, x1, x2⟩ := HJ.out.po
      obtain ⟨z0, zf⟩ := HJ.out.at1
      have HD := Lib.hid (HJ.out.below (Below.refl _ _).drew)
      go_region_law ((first
        | (go_simp; go_at_call 41; (with_reducible refine (HSd.out 1 _ HD.out.be (by decide)).mono ?_); rintro e w8 ⟨a3, c3, rfl, hr3, hc3, hb8⟩; have HX := Lib.hid (HD.out.below hb8); obtain ⟨_, t0, t1, t2⟩ := HX.out.s; obtain ⟨z0, zf⟩ := HX.out.at1; have HR3 := Lib.hid hr3; clear hb8 hr3)
        | (go_simp; go_at_call 32; (with_reducible refine (HSm1.out _ _ _ HR3.out).mono ?_); rintro e w9 ⟨rfl, rfl⟩)))
      all_goals
        have HN := Lib.hid (HX.out.set1 ((y1 + h0) + h1))
        clear HX HD HR3 HJ r0' r1' r2' r3' r4' r5' r6' r7' r8' x0 x1 x2
        generalize w8.setCell ⟨b6, 1, none⟩ (.int .i64 ((y1 + h0) + h1)) = W8 at *
        clear z0 zf t0 t1 t2
        go_wp2_with fail
        go_roundw
        case rel => exact .inr (.inr ⟨rfl, HN.out⟩)
        case measure => simp [intOf]
    · have HJ := Lib.hid hJ
      clear hJ
      obtain ⟨_, t0, t1, t2⟩ := HJ.out.s
      have hfree := HJ.out.o.o1.free (by intro e; have h1 := HJ.out.o.l1; have h2 := Hn.out; rw [e] at h1; simp at h1; omega)
      have hcl : ∀ ty, (Builtin.clear_ #[26] ty #[.slice (some ⟨b5, 0, none⟩) pn1 c5]).run Try.prog wr = .ok (.tuple #[]) (wr.setCells b5 0 (List.replicate pn1 (.int .i64 0))) := fun ty =>
        Lib.run_clear_slice wr _ _ ty _ Try.underlying26 zero64 rfl rfl b5 0 pn1 c5 (by have := Hn.out; omega) (fun j hj => by rw [Nat.zero_add, HJ.out.o.o1.at0 (i := j) (by rw [HJ.out.o.l1]; exact hj)]; rfl) (fun j hj => hfree.2 _)
      clear hfree
      go_upto_region 8 with fail
      have HN := Lib.hid HJ.out.wipe
      clear HJ hcl t0 t1 t2
      generalize wr.setCells b5 0 (List.replicate pn1 (.int .i64 0)) = W8 at *
      obtain ⟨_, t0, t1, t2⟩ := HN.out.s
      obtain ⟨zl, z0, z1, z2, zf⟩ := HN.out.z
      have f0 := zf 0
      have f1 := zf 1
      have f2 := zf 2
      clear zf
      go_wp2_with fail
      have hn5 := HN.out.o.o1.new
      have hn6 := HN.out.o.o2.new
      refine bodyPost_ret (v := .agg #[.slice (some ⟨b5, 0, none⟩) pn1 c5, .slice (some ⟨b6, 0, none⟩) 2 c6, .int .i64 pp]) (by simp [results, Try.results21, go_sem, z0, z1, z2]) rfl ⟨b5, c5, b6, c6, rfl, (HN.out.o.set3 _ _ _ (by omega) (by omega)).lower (by omega), by simpa using HN.out.l5, by simpa using HN.out.l6, HN.out.k5, HN.out.k6, OnW.set3 (show OnW w W8 from HN.out.be) (by omega) _ _ _⟩
end Go.Proofs.Ytgogjjkecbgbiaa
