/- Game2d, Et8, Et9, EtS, Lg8, one after the other (what the laws reach of them). No conditions. -/
import Derived.Test.YtgbaneildbdgdaaGreatWb9
namespace Go.Proofs.YtgbaneildbdgdaaGreat
open Go.Joins Go.ChangeShapes Go.WideShapes Go.ChangeAt Go.RowKit Go.Deep
set_option linter.unusedVariables false
set_option maxHeartbeats 8000000
set_option maxRecDepth 100000
/- Game2d -/
def GamP2 (p s c l : Int) (st sk re fe ag : Bool) (an1 an2 : Nat) (ap : Int) (mn bn1 bn2 : Nat) (bp rg : Int) (sx sy ms nx ny : List Int) (w : World) (e : Ending) (w' : World) : Prop :=
 ∃ g1 g2 g3 g4 g5, e = .returned (.agg #[.int .i64 p, .int .i64 s, .bool st, .bool sk, .bool re, .bool fe, .bool ag, .int .i64 c, .int .i64 l, .slice (some ⟨g1, 0, none⟩) an1 an1, .slice (some ⟨g2, 0, none⟩) an2 an2, .int .i64 ap, .slice (some ⟨g3, 0, none⟩) mn mn, .slice (some ⟨g4, 0, none⟩) bn1 bn1, .slice (some ⟨g5, 0, none⟩) bn2 bn2, .int .i64 bp, .int .i64 rg]) ∧ GamO w' w.heap.size (some ⟨g1, 0, none⟩) (some ⟨g2, 0, none⟩) g1 g2 an1 an2 (some ⟨g3, 0, none⟩) g3 mn (some ⟨g4, 0, none⟩) (some ⟨g5, 0, none⟩) g4 g5 bn1 bn2 sx sy ms nx ny ∧ (g1 < w'.heap.size ∧ g2 < w'.heap.size ∧ g3 < w'.heap.size ∧ g4 < w'.heap.size ∧ g5 < w'.heap.size) ∧ GamD w' g1 g2 g3 g4 g5 ∧ Below w.heap.size w w'
theorem toG2_any (Jp Js Jc Jl : Int) (Jst Jsk Jre Jfe Jag : Bool) (Ja1 Ja2 : Option Addr) (Jan1 Jac1 Jan2 Jac2 : Nat) (Jap : Int) (Jm : Option Addr) (Jmn Jmc : Nat) (Jb1 Jb2 : Option Addr) (Jbn1 Jbc1 Jbn2 Jbc2 : Nat) (Jbp Jrg : Int) (sx sy ms nx ny : List Int) (w : World) (h : GamR w Ja1 Ja2 Jan1 Jan2 Jm Jmn Jb1 Jb2 Jbn1 Jbn2 sx sy ms nx ny) :
  Calls Tryz.prog 14 #[.agg #[.int .i64 Jp, .int .i64 Js, .bool Jst, .bool Jsk, .bool Jre, .bool Jfe, .bool Jag, .int .i64 Jc, .int .i64 Jl, .slice Ja1 Jan1 Jac1, .slice Ja2 Jan2 Jac2, .int .i64 Jap, .slice Jm Jmn Jmc, .slice Jb1 Jbn1 Jbc1, .slice Jb2 Jbn2 Jbc2, .int .i64 Jbp, .int .i64 Jrg]] w (GamP2 Jp Js Jc Jl Jst Jsk Jre Jfe Jag Jan1 Jan2 Jap Jmn Jbn1 Jbn2 Jbp Jrg sx sy ms nx ny w) := by
 have H := Lib.hid h
 clear h
 have HS := Lib.hid (tgm_new Jp Js Jc Jl Jst Jsk Jre Jfe Jag Ja1 Ja2 Jan1 Jac1 Jan2 Jac2 Jap Jm Jmn Jmc Jb1 Jb2 Jbn1 Jbc1 Jbn2 Jbc2 Jbp Jrg w 28 35)
 go_enter Tryz.func14, Tryz.ntmps14
 go_wp2_with fail
 refine (toRules_any Jp Js Jc Jl Jst Jsk Jre Jfe Jag _).mono ?_
 rintro e u1 ⟨rfl, b1⟩
 have HS := Lib.hid (HS.out.below b1)
 clear b1
 have lz1 := HS.out.z.lt
 obtain ⟨⟨_, d0, d1, d2, d3, d4, d5, d6, d7, d8, d9, d10, d11, d12, d13, d14, d15, d16⟩, -, ⟨_, z0, z1, z2, z3, z4, z5, z6, z7, z8, z9, z10, z11, z12, z13, z14, z15, z16, zf⟩, -⟩ := HS.out
 go_wp2_with fail
 refine (toPos_any Ja1 Ja2 Jan1 Jac1 Jan2 Jac2 Jap sx sy _ (H.out.s.below ((HS.out.setR (.int .i64 Jp) (.int .i64 Js) (.bool Jst) (.bool Jsk) (.bool Jre) (.bool Jfe) (.bool Jag) (.int .i64 Jc) (.int .i64 Jl)).b))).mono ?_
 rintro e u2 ⟨g1, g2, rfl, o2, l1, l2, b2⟩
 have e1 : w.heap.size + 1 + 1 < g1 := by have := o2.o1.new; simp at this; omega
 have e2 : w.heap.size + 1 + 1 < g2 := by have := o2.o2.new; simp at this; omega
 have O2 := Lib.hid (o2.lower (C := w.heap.size) (by simp; omega))
 have HS := Lib.hid ((HS.out.setR (.int .i64 Jp) (.int .i64 Js) (.bool Jst) (.bool Jsk) (.bool Jre) (.bool Jfe) (.bool Jag) (.int .i64 Jc) (.int .i64 Jl)).below b2)
 clear b2 o2 d0 z0 d1 z1 d2 z2 d3 z3 d4 z4 d5 z5 d6 z6 d7 z7 d8 z8 d9 z9 d10 z10 d11 z11 d12 z12 d13 z13 d14 z14 d15 z15 d16 z16 zf
 have lz2 := HS.out.z.lt
 obtain ⟨⟨_, d0, d1, d2, d3, d4, d5, d6, d7, d8, d9, d10, d11, d12, d13, d14, d15, d16⟩, -, ⟨_, z0, z1, z2, z3, z4, z5, z6, z7, z8, z9, z10, z11, z12, z13, z14, z15, z16, zf⟩, -⟩ := HS.out
 go_wp2_with fail
 refine (toRow_any Jm Jmc Jmn ms _ H.out.lm (H.out.m.below ((HS.out.setS (.slice (some ⟨g1, 0, none⟩) Jan1 Jan1) (.slice (some ⟨g2, 0, none⟩) Jan2 Jan2) (.int .i64 Jap)).b))).mono ?_
 rintro e u3 ⟨g3, rfl, o3, l3, b3⟩
 have e3 : w.heap.size + 1 + 1 < g3 := by have := o3.new; simp at this; omega
 have n3 : u2.heap.size ≤ g3 := by have := o3.new; simpa using this
 have O3 := Lib.hid (o3.lower (C := w.heap.size) (by simp; omega))
 have O2 := Lib.hid ((O2.out.but (but_setS (w.heap.size + 1 + 1) u2 (.slice (some ⟨g1, 0, none⟩) Jan1 Jan1) (.slice (some ⟨g2, 0, none⟩) Jan2 Jan2) (.int .i64 Jap)) (by omega) (by omega)).below b3)
 have HS := Lib.hid ((HS.out.setS (.slice (some ⟨g1, 0, none⟩) Jan1 Jan1) (.slice (some ⟨g2, 0, none⟩) Jan2 Jan2) (.int .i64 Jap)).below b3)
 have s3 := b3.size
 simp at s3
 clear b3 o3 d0 z0 d1 z1 d2 z2 d3 z3 d4 z4 d5 z5 d6 z6 d7 z7 d8 z8 d9 z9 d10 z10 d11 z11 d12 z12 d13 z13 d14 z14 d15 z15 d16 z16 zf
 have lz3 := HS.out.z.lt
 obtain ⟨⟨_, d0, d1, d2, d3, d4, d5, d6, d7, d8, d9, d10, d11, d12, d13, d14, d15, d16⟩, -, ⟨_, z0, z1, z2, z3, z4, z5, z6, z7, z8, z9, z10, z11, z12, z13, z14, z15, z16, zf⟩, -⟩ := HS.out
 go_wp2_with fail
 refine (toPos_any Jb1 Jb2 Jbn1 Jbc1 Jbn2 Jbc2 Jbp nx ny _ (H.out.n.below ((HS.out.setM (.slice (some ⟨g3, 0, none⟩) Jmn Jmn)).b))).mono ?_
 rintro e u4 ⟨g4, g5, rfl, o4, l4, l5, b4⟩
 have n4 : u3.heap.size ≤ g4 := by have := o4.o1.new; simpa using this
 have n5 : u3.heap.size ≤ g5 := by have := o4.o2.new; simpa using this
 have e4 : w.heap.size + 1 + 1 < g4 := by have := o4.o1.new; simp at this; omega
 have e5 : w.heap.size + 1 + 1 < g5 := by have := o4.o2.new; simp at this; omega
 have O4 := Lib.hid (o4.lower (C := w.heap.size) (by simp; omega))
 have O3 := Lib.hid ((O3.out.but (but_setM (w.heap.size + 1 + 1) u3 (.slice (some ⟨g3, 0, none⟩) Jmn Jmn)) (by omega)).below b4)
 have O2 := Lib.hid ((O2.out.but (but_setM (w.heap.size + 1 + 1) u3 (.slice (some ⟨g3, 0, none⟩) Jmn Jmn)) (by omega) (by omega)).below b4)
 have HS := Lib.hid ((HS.out.setM (.slice (some ⟨g3, 0, none⟩) Jmn Jmn)).below b4)
 have s4 := b4.size
 simp at s4
 clear b4 o4 d0 z0 d1 z1 d2 z2 d3 z3 d4 z4 d5 z5 d6 z6 d7 z7 d8 z8 d9 z9 d10 z10 d11 z11 d12 z12 d13 z13 d14 z14 d15 z15 d16 z16 zf
 have d16 := HS.out.a.2.2.2.2.2.2.2.2.2.2.2.2.2.2.2.2.2
 have z13 := HS.out.z.c13
 have z14 := HS.out.z.c14
 have z15 := HS.out.z.c15
 have z16 := HS.out.z.c16
 have zf := HS.out.z.fr
 have HE := Lib.hid ((HS.out.setN (.slice (some ⟨g4, 0, none⟩) Jbn1 Jbn1) (.slice (some ⟨g5, 0, none⟩) Jbn2 Jbn2) (.int .i64 Jbp)).setG (.int .i64 Jrg))
 go_upto_region 7 with fail
 go_step
 have hrg := TGm.rg HE.out.z
 have hth := HE.out.r.there
 refine wpList_load_mid rfl 35 (.tmp 3) rfl (w.heap.size + 1 + 1) 0 rfl _ _ hrg Tryz.underlying35 rfl (by kernel_rfl) ?_
 refine wpList_store_mid rfl 35 (.tmp 2) (.tmp 23) rfl (w.heap.size + 1) 0 (List.toArray [.int .i64 Jp, .int .i64 Js, .bool Jst, .bool Jsk, .bool Jre, .bool Jfe, .bool Jag, .int .i64 Jc, .int .i64 Jl, .slice (some ⟨g1, 0, none⟩) Jan1 Jan1, .slice (some ⟨g2, 0, none⟩) Jan2 Jan2, .int .i64 Jap, .slice (some ⟨g3, 0, none⟩) Jmn Jmn, .slice (some ⟨g4, 0, none⟩) Jbn1 Jbn1, .slice (some ⟨g5, 0, none⟩) Jbn2 Jbn2, .int .i64 Jbp, .int .i64 Jrg]) rfl rfl hth (by kernel_rfl) (gm_one _ _ _ _ _ _ _ _ _ _ _ _ _ _ _ _ _ _ _ _ _ _ _ _ _ _ _) ?_
 clear hrg hth
 simp only [Act.put, List.setIfInBounds_toArray, List.set_cons_zero, List.set_cons_succ]
 go_wp2_with fail
 have hrun := run_loadVar_mid (P := Tryz.prog) _ (w.heap.size + 1) 0 35 [.int .i64 Jp, .int .i64 Js, .bool Jst, .bool Jsk, .bool Jre, .bool Jfe, .bool Jag, .int .i64 Jc, .int .i64 Jl, .slice (some ⟨g1, 0, none⟩) Jan1 Jan1, .slice (some ⟨g2, 0, none⟩) Jan2 Jan2, .int .i64 Jap, .slice (some ⟨g3, 0, none⟩) Jmn Jmn, .slice (some ⟨g4, 0, none⟩) Jbn1 Jbn1, .slice (some ⟨g5, 0, none⟩) Jbn2 Jbn2, .int .i64 Jbp, .int .i64 Jrg] _ (World.rangeAt_setCells_same _ (w.heap.size + 1) 0 [.int .i64 Jp, .int .i64 Js, .bool Jst, .bool Jsk, .bool Jre, .bool Jfe, .bool Jag, .int .i64 Jc, .int .i64 Jl, .slice (some ⟨g1, 0, none⟩) Jan1 Jan1, .slice (some ⟨g2, 0, none⟩) Jan2 Jan2, .int .i64 Jap, .slice (some ⟨g3, 0, none⟩) Jmn Jmn, .slice (some ⟨g4, 0, none⟩) Jbn1 Jbn1, .slice (some ⟨g5, 0, none⟩) Jbn2 Jbn2, .int .i64 Jbp, .int .i64 Jrg] HE.out.r.there) Tryz.underlying35 rfl (by kernel_rfl)
 refine bodyPost_ret (v := .agg (List.toArray [.int .i64 Jp, .int .i64 Js, .bool Jst, .bool Jsk, .bool Jre, .bool Jfe, .bool Jag, .int .i64 Jc, .int .i64 Jl, .slice (some ⟨g1, 0, none⟩) Jan1 Jan1, .slice (some ⟨g2, 0, none⟩) Jan2 Jan2, .int .i64 Jap, .slice (some ⟨g3, 0, none⟩) Jmn Jmn, .slice (some ⟨g4, 0, none⟩) Jbn1 Jbn1, .slice (some ⟨g5, 0, none⟩) Jbn2 Jbn2, .int .i64 Jbp, .int .i64 Jrg])) ?_ rfl ⟨g1, g2, g3, g4, g5, rfl, ⟨?_, ?_, H.out.lm, ?_⟩, ?_, ?_, ?_⟩
 ·simp [results, Tryz.results14, asAddr, hrun]
 ·exact (((O2.out.but (but_setN (w.heap.size + 1 + 1) u4 (.slice (some ⟨g4, 0, none⟩) Jbn1 Jbn1) (.slice (some ⟨g5, 0, none⟩) Jbn2 Jbn2) (.int .i64 Jbp)) (by omega) (by omega)).but (but_setG (w.heap.size + 1 + 1) _ (.int .i64 Jrg)) (by omega) (by omega)).but (but_scg (w.heap.size + 1) [.int .i64 Jp, .int .i64 Js, .bool Jst, .bool Jsk, .bool Jre, .bool Jfe, .bool Jag, .int .i64 Jc, .int .i64 Jl, .slice (some ⟨g1, 0, none⟩) Jan1 Jan1, .slice (some ⟨g2, 0, none⟩) Jan2 Jan2, .int .i64 Jap, .slice (some ⟨g3, 0, none⟩) Jmn Jmn, .slice (some ⟨g4, 0, none⟩) Jbn1 Jbn1, .slice (some ⟨g5, 0, none⟩) Jbn2 Jbn2, .int .i64 Jbp, .int .i64 Jrg] 0 (But.refl _ _)) (by omega) (by omega))
 ·exact (((O3.out.but (but_setN (w.heap.size + 1 + 1) u4 (.slice (some ⟨g4, 0, none⟩) Jbn1 Jbn1) (.slice (some ⟨g5, 0, none⟩) Jbn2 Jbn2) (.int .i64 Jbp)) (by omega)).but (but_setG (w.heap.size + 1 + 1) _ (.int .i64 Jrg)) (by omega)).but (but_scg (w.heap.size + 1) [.int .i64 Jp, .int .i64 Js, .bool Jst, .bool Jsk, .bool Jre, .bool Jfe, .bool Jag, .int .i64 Jc, .int .i64 Jl, .slice (some ⟨g1, 0, none⟩) Jan1 Jan1, .slice (some ⟨g2, 0, none⟩) Jan2 Jan2, .int .i64 Jap, .slice (some ⟨g3, 0, none⟩) Jmn Jmn, .slice (some ⟨g4, 0, none⟩) Jbn1 Jbn1, .slice (some ⟨g5, 0, none⟩) Jbn2 Jbn2, .int .i64 Jbp, .int .i64 Jrg] 0 (But.refl _ _)) (by omega))
 ·exact (((O4.out.but (but_setN (w.heap.size + 1 + 1) u4 (.slice (some ⟨g4, 0, none⟩) Jbn1 Jbn1) (.slice (some ⟨g5, 0, none⟩) Jbn2 Jbn2) (.int .i64 Jbp)) (by omega) (by omega)).but (but_setG (w.heap.size + 1 + 1) _ (.int .i64 Jrg)) (by omega) (by omega)).but (but_scg (w.heap.size + 1) [.int .i64 Jp, .int .i64 Js, .bool Jst, .bool Jsk, .bool Jre, .bool Jfe, .bool Jag, .int .i64 Jc, .int .i64 Jl, .slice (some ⟨g1, 0, none⟩) Jan1 Jan1, .slice (some ⟨g2, 0, none⟩) Jan2 Jan2, .int .i64 Jap, .slice (some ⟨g3, 0, none⟩) Jmn Jmn, .slice (some ⟨g4, 0, none⟩) Jbn1 Jbn1, .slice (some ⟨g5, 0, none⟩) Jbn2 Jbn2, .int .i64 Jbp, .int .i64 Jrg] 0 (But.refl _ _)) (by omega) (by omega))
 ·rw [size_scg]
  simp
  omega
 ·constructor <;> first | omega | (rw [size_scg]; simp; omega)
 ·exact below_scg (w.heap.size + 1) (by omega) [.int .i64 Jp, .int .i64 Js, .bool Jst, .bool Jsk, .bool Jre, .bool Jfe, .bool Jag, .int .i64 Jc, .int .i64 Jl, .slice (some ⟨g1, 0, none⟩) Jan1 Jan1, .slice (some ⟨g2, 0, none⟩) Jan2 Jan2, .int .i64 Jap, .slice (some ⟨g3, 0, none⟩) Jmn Jmn, .slice (some ⟨g4, 0, none⟩) Jbn1 Jbn1, .slice (some ⟨g5, 0, none⟩) Jbn2 Jbn2, .int .i64 Jbp, .int .i64 Jrg] 0 HE.out.b
/- Et9 -/
def RcP (ok : Bool) (ns : List Int) (w : World) (e : Ending) (w' : World) : Prop :=
 if ok = true then ∃ v, e = .returned (.tuple #[v, .int .i64 0]) ∧ w'.ownsRow w.heap.size 2 1 v ns.length (nvs ns) ∧ Below w.heap.size w w'
 else e = .returned (.tuple #[.slice none 0 0, .int .i64 1]) ∧ Below w.heap.size w w'
/- Lg8 -/
theorem RIn.but5 {u v : World} {lo hi b k1 k2 k3 k4 k5 : Nat} {a : Option Addr} {L : List Int} (h : RIn u lo hi a b L) (k : But5 k1 k2 k3 k4 k5 u v) (c1 : hi ≤ k1 ∨ k1 < lo) (c2 : hi ≤ k2 ∨ k2 < lo) (c3 : hi ≤ k3 ∨ k3 < lo) (c4 : hi ≤ k4 ∨ k4 < lo) (c5 : hi ≤ k5 ∨ k5 < lo) : RIn v lo hi a b L := by
 obtain ⟨ho, hlt, hs⟩ := h
 refine ⟨?_, hlt, Nat.le_trans hs k.size⟩
 by_cases hne : L = []
 ·subst hne
  exact ⟨rowN_nil _ _, ho.at_b, ho.new, fun h => absurd rfl h⟩
 ·have h1 := hlt hne
  have h2 := ho.new
  obtain ⟨h3, h4⟩ := ho.free hne
  have n1 : b ≠ k1 := by omega
  have n2 : b ≠ k2 := by omega
  have n3 : b ≠ k3 := by omega
  have n4 : b ≠ k4 := by omega
  have n5 : b ≠ k5 := by omega
  refine ⟨?_, ho.at_b, ho.new, fun _ => ⟨Nat.lt_of_lt_of_le h3 k.size, fun o => (World.frozen?_of_block (w := u) (k.block b h3 n1 n2 n3 n4 n5)).trans (h4 o)⟩⟩
  obtain ⟨hl, h | ⟨g, o, ha, hg, hx⟩⟩ := ho.row
  ·exact ⟨hl, .inl h⟩
  ·refine ⟨hl, .inr ⟨g, o, ha, Nat.lt_of_lt_of_le hg k.size, fun i s hs => ?_⟩⟩
   obtain rfl := ho.at_b g o ha
   rw [k.cell hg n1 n2 n3 n4 n5]
   exact hx i s hs
theorem GamD.below {u v : World} {k1 k2 k3 k4 k5 : Nat} (h : GamD u k1 k2 k3 k4 k5) (k : Below u.heap.size u v) : GamD v k1 k2 k3 k4 k5 :=
 ⟨Nat.lt_of_lt_of_le h.l1 k.size, Nat.lt_of_lt_of_le h.l2 k.size, Nat.lt_of_lt_of_le h.l3 k.size, Nat.lt_of_lt_of_le h.l4 k.size, Nat.lt_of_lt_of_le h.l5 k.size, h.n13, h.n23, h.n14, h.n24, h.n15, h.n25, h.n34, h.n35⟩
theorem GmB.but5 {w u v : World} {k1 k2 k3 k4 k5 : Nat} {Jp Js Jc Jl : Int} {Jst Jsk Jre Jfe Jag : Bool} {Ja1 Ja2 : Option Addr} {Jan1 Jac1 Jan2 Jac2 : Nat} {Jap : Int} {Jm : Option Addr} {Jmn Jmc : Nat} {Jb1 Jb2 : Option Addr} {Jbn1 Jbc1 Jbn2 Jbc2 : Nat} {Jbp Jrg : Int} (h : GmB w w.heap.size Jp Js Jc Jl Jst Jsk Jre Jfe Jag Ja1 Ja2 Jan1 Jac1 Jan2 Jac2 Jap Jm Jmn Jmc Jb1 Jb2 Jbn1 Jbc1 Jbn2 Jbc2 Jbp Jrg u) (k : But5 k1 k2 k3 k4 k5 u v) (c1 : w.heap.size < k1) (c2 : w.heap.size < k2) (c3 : w.heap.size < k3) (c4 : w.heap.size < k4) (c5 : w.heap.size < k5) : GmB w w.heap.size Jp Js Jc Jl Jst Jsk Jre Jfe Jag Ja1 Ja2 Jan1 Jac1 Jan2 Jac2 Jap Jm Jmn Jmc Jb1 Jb2 Jbn1 Jbc1 Jbn2 Jbc2 Jbp Jrg v :=
 ⟨h.1.but5 k (by omega) (by omega) (by omega) (by omega) (by omega), Below.trans h.2 (k.below h.2.size (by omega) (by omega) (by omega) (by omega) (by omega))⟩
def RowX (ok : Bool) (ns : List Int) : List Int := if ok = true then ns else []
theorem RcP.ex {ok : Bool} {ns : List Int} {w w' : World} {e : Ending} (h : RcP ok ns w e w') : ∃ v, e = .returned (.tuple #[v, .int .i64 (if ok = true then 0 else 1)]) ∧ w'.ownsRow w.heap.size 2 1 v (RowX ok ns).length (nvs (RowX ok ns)) ∧ Below w.heap.size w w' := by
 unfold RcP at h
 cases ok
 ·rw [if_neg (by decide)] at h
  exact ⟨_, h.1, World.ownsRow_nil _ _ _ _, h.2⟩
 ·rw [if_pos rfl] at h
  exact h
end Go.Proofs.YtgbaneildbdgdaaGreat
