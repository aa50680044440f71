/- RinP, Game2d, Et8, Et9, EtS, Lg8, Law8GA, Law8MO, one after the other. No conditions. -/
import Derived.Test.YtenpnilljjfmkaaVb2
import Derived.Test.YtenpnilljjfmkaaOwn4
import Derived.Test.YtenpnilljjfmkaaVb3
import Derived.Test.YtenpnilljjfmkaaVb4
import Derived.Deep.DeepCutAuto
/- RinP -/
namespace Go.Proofs.Ytenpnilljjfmkaa
open Go.Joins Go.ChangeShapes Go.WideShapes Go.ChangeAt Go.RowKit Go.Deep
set_option linter.unusedVariables false

/-- A row in a block of its own, from lo up to hi. -/
def RIn (u : World) (lo hi : Nat) (a : Option Addr) (b : Nat) (L : List Int) : Prop := OutN u lo a b L ∧ (L ≠ [] → b < hi) ∧ hi ≤ u.heap.size
section
variable {u v : World} {lo hi b c d : Nat} {a : Option Addr} {L : List Int}
theorem RIn.below (h : RIn u lo hi a b L) (k : Below u.heap.size u v) : RIn v lo hi a b L := ⟨h.1.below k, h.2.1, Nat.le_trans h.2.2 k.size⟩
theorem RIn.drew (h : RIn u lo hi a b L) : RIn u.drew lo hi a b L := h.below (Below.refl _ _).drew
theorem RIn.but2 (h : RIn u lo hi a b L) (k : But2 c d u v) (hc : hi ≤ c ∨ c < lo) (hd : hi ≤ d ∨ d < lo) : RIn v lo hi a b L := by
  obtain ⟨ho, hlt, hs⟩ := h
  refine ⟨?_, hlt, Nat.le_trans hs k.size⟩
  by_cases hne : L = []
  · subst hne
    exact ⟨rowN_nil _ _, ho.at_b, ho.new, fun h => absurd rfl h⟩
  · have h1 := hlt hne
    have h2 := ho.new
    exact ho.but2 k (by omega) (by omega)
end
theorem rin_own {u : World} {lo n : Nat} {v : Value} {L : List Int} (h : u.ownsRow lo 2 1 v n (nvs L)) (hn : L.length = n) (hle : n ≤ 1000000) : ∃ a c b, v = .slice a n c ∧ RIn u lo u.heap.size a b L := by
  by_cases hne : L = []
  · subst hne
    obtain ⟨_, ⟨hv, h0⟩ | ⟨g, cap, cur, hv, hb, _⟩⟩ := h
    · subst h0
      exact ⟨none, 0, lo, hv, ⟨rowN_nil _ _, (fun _ _ e => by cases e), Nat.le_refl _, fun h => absurd rfl h⟩, (fun h => absurd rfl h), Nat.le_refl _⟩
    · exact ⟨_, cap, g, hv, ⟨rowN_nil _ _, (fun _ _ e => by cases e; rfl), hb, fun h => absurd rfl h⟩, (fun h => absurd rfl h), Nat.le_refl _⟩
  · obtain ⟨c, b, hv, ho, hlt, _⟩ := outN_own h hn (by omega) hne
    exact ⟨_, c, b, hv, ho, (fun _ => hlt), Nat.le_refl _⟩
/-- Rows of a copy of the argument. -/
def XIn (u : World) (lo x1 x2 n1 n2 : Nat) (xs ys : List Int) : Prop := PosO u lo (some ⟨x1, 0, none⟩) (some ⟨x2, 0, none⟩) x1 x2 n1 n2 xs ys
theorem XIn.below {u v : World} {lo x1 x2 n1 n2 : Nat} {xs ys : List Int} (h : XIn u lo x1 x2 n1 n2 xs ys) (k : Below u.heap.size u v) : XIn v lo x1 x2 n1 n2 xs ys := PosO.below h k
theorem XIn.drew {u : World} {lo x1 x2 n1 n2 : Nat} {xs ys : List Int} (h : XIn u lo x1 x2 n1 n2 xs ys) : XIn u.drew lo x1 x2 n1 n2 xs ys := PosO.below h (Below.refl _ _).drew
/-- The marks in a row. -/
def GIn (u : World) (lo : Nat) (a : Option Addr) (b n : Nat) : Prop := OutN u lo a b (marksN 1 n)
theorem GIn.below {u v : World} {lo b n : Nat} {a : Option Addr} (h : GIn u lo a b n) (k : Below u.heap.size u v) : GIn v lo a b n := OutN.below h k
theorem GIn.drew {u : World} {lo b n : Nat} {a : Option Addr} (h : GIn u lo a b n) : GIn u.drew lo a b n := OutN.below h (Below.refl _ _).drew
end Go.Proofs.Ytenpnilljjfmkaa

/- Game2d -/
namespace Go.Proofs.Ytenpnilljjfmkaa
open Go.Joins Go.ChangeShapes Go.WideShapes Go.ChangeAt Go.RowKit Go.Deep
set_option linter.unusedVariables false

def GamP2 (p s c l : Int) (st sk re fe ag : Bool) (an1 an2 : Nat) (ap : Int) (mn bn1 bn2 : Nat) (bp rg : Int) (sx sy ms nx ny : List Int) (w : World) (e : Ending) (w' : World) : Prop :=
  ∃ g1 g2 g3 g4 g5, e = .returned (.agg #[.int .i64 p, .int .i64 s, .bool st, .bool sk, .bool re, .bool fe, .bool ag, .int .i64 c, .int .i64 l, .slice (some ⟨g1, 0, none⟩) an1 an1, .slice (some ⟨g2, 0, none⟩) an2 an2, .int .i64 ap, .slice (some ⟨g3, 0, none⟩) mn mn, .slice (some ⟨g4, 0, none⟩) bn1 bn1, .slice (some ⟨g5, 0, none⟩) bn2 bn2, .int .i64 bp, .int .i64 rg]) ∧ GamO w' w.heap.size (some ⟨g1, 0, none⟩) (some ⟨g2, 0, none⟩) g1 g2 an1 an2 (some ⟨g3, 0, none⟩) g3 mn (some ⟨g4, 0, none⟩) (some ⟨g5, 0, none⟩) g4 g5 bn1 bn2 sx sy ms nx ny ∧ (g1 < w'.heap.size ∧ g2 < w'.heap.size ∧ g3 < w'.heap.size ∧ g4 < w'.heap.size ∧ g5 < w'.heap.size) ∧ GamD w' g1 g2 g3 g4 g5 ∧ Below w.heap.size w w'
set_option maxHeartbeats 4000000 in
set_option maxRecDepth 100000 in
theorem toG2_any (ggp ggs ggc ggl : Int) (ggst ggsk ggre ggfe ggag : Bool) (gga1 gga2 : Option Addr) (ggan1 ggac1 ggan2 ggac2 : Nat) (ggap : Int) (ggm : Option Addr) (ggmn ggmc : Nat) (ggb1 ggb2 : Option Addr) (ggbn1 ggbc1 ggbn2 ggbc2 : Nat) (ggbp ggrg : Int) (sx sy ms nx ny : List Int) (w : World) (h : GamR w gga1 gga2 ggan1 ggan2 ggm ggmn ggb1 ggb2 ggbn1 ggbn2 sx sy ms nx ny) :
    Calls Try.prog 20 #[.agg #[.int .i64 ggp, .int .i64 ggs, .bool ggst, .bool ggsk, .bool ggre, .bool ggfe, .bool ggag, .int .i64 ggc, .int .i64 ggl, .slice gga1 ggan1 ggac1, .slice gga2 ggan2 ggac2, .int .i64 ggap, .slice ggm ggmn ggmc, .slice ggb1 ggbn1 ggbc1, .slice ggb2 ggbn2 ggbc2, .int .i64 ggbp, .int .i64 ggrg]] w (GamP2 ggp ggs ggc ggl ggst ggsk ggre ggfe ggag ggan1 ggan2 ggap ggmn ggbn1 ggbn2 ggbp ggrg sx sy ms nx ny w) := by
  have H := Lib.hid h
  clear h
  have HS := Lib.hid (tgm_new ggp ggs ggc ggl ggst ggsk ggre ggfe ggag gga1 gga2 ggan1 ggac1 ggan2 ggac2 ggap ggm ggmn ggmc ggb1 ggb2 ggbn1 ggbc1 ggbn2 ggbc2 ggbp ggrg w 42 31)
  go_enter Try.func20, Try.ntmps20
  go_wp2_with fail
  refine (toRules_any ggp ggs ggc ggl ggst ggsk ggre ggfe ggag _).mono ?_
  rintro e u1 ⟨rfl, b1⟩
  have HS := Lib.hid (HS.out.below b1)
  clear b1
  have lz1 := HS.out.z.lt
  obtain ⟨⟨_, d0, d1, d2, d3, d4, d5, d6, d7, d8, d9, d10, d11, d12, d13, d14, d15, d16⟩, -, ⟨_, z0, z1, z2, z3, z4, z5, z6, z7, z8, z9, z10, z11, z12, z13, z14, z15, z16, zf⟩, -⟩ := HS.out
  go_wp2_with fail
  refine (toPos_any gga1 gga2 ggan1 ggac1 ggan2 ggac2 ggap sx sy _ (H.out.s.below ((HS.out.setR (.int .i64 ggp) (.int .i64 ggs) (.bool ggst) (.bool ggsk) (.bool ggre) (.bool ggfe) (.bool ggag) (.int .i64 ggc) (.int .i64 ggl)).b))).mono ?_
  rintro e u2 ⟨g1, g2, rfl, o2, l1, l2, b2⟩
  have e1 : w.heap.size + 1 + 1 < g1 := by have := o2.o1.new; simp at this; omega
  have e2 : w.heap.size + 1 + 1 < g2 := by have := o2.o2.new; simp at this; omega
  have O2 := Lib.hid (o2.lower (C := w.heap.size) (by simp; omega))
  have HS := Lib.hid ((HS.out.setR (.int .i64 ggp) (.int .i64 ggs) (.bool ggst) (.bool ggsk) (.bool ggre) (.bool ggfe) (.bool ggag) (.int .i64 ggc) (.int .i64 ggl)).below b2)
  clear b2 o2 d0 z0 d1 z1 d2 z2 d3 z3 d4 z4 d5 z5 d6 z6 d7 z7 d8 z8 d9 z9 d10 z10 d11 z11 d12 z12 d13 z13 d14 z14 d15 z15 d16 z16 zf
  have lz2 := HS.out.z.lt
  obtain ⟨⟨_, d0, d1, d2, d3, d4, d5, d6, d7, d8, d9, d10, d11, d12, d13, d14, d15, d16⟩, -, ⟨_, z0, z1, z2, z3, z4, z5, z6, z7, z8, z9, z10, z11, z12, z13, z14, z15, z16, zf⟩, -⟩ := HS.out
  go_wp2_with fail
  refine (toRow_any ggm ggmc ggmn ms _ H.out.lm (H.out.m.below ((HS.out.setS (.slice (some ⟨g1, 0, none⟩) ggan1 ggan1) (.slice (some ⟨g2, 0, none⟩) ggan2 ggan2) (.int .i64 ggap)).b))).mono ?_
  rintro e u3 ⟨g3, rfl, o3, l3, b3⟩
  have e3 : w.heap.size + 1 + 1 < g3 := by have := o3.new; simp at this; omega
  have n3 : u2.heap.size ≤ g3 := by have := o3.new; simpa using this
  have O3 := Lib.hid (o3.lower (C := w.heap.size) (by simp; omega))
  have O2 := Lib.hid ((O2.out.but (but_setS (w.heap.size + 1 + 1) u2 (.slice (some ⟨g1, 0, none⟩) ggan1 ggan1) (.slice (some ⟨g2, 0, none⟩) ggan2 ggan2) (.int .i64 ggap)) (by omega) (by omega)).below b3)
  have HS := Lib.hid ((HS.out.setS (.slice (some ⟨g1, 0, none⟩) ggan1 ggan1) (.slice (some ⟨g2, 0, none⟩) ggan2 ggan2) (.int .i64 ggap)).below b3)
  have s3 := b3.size
  simp at s3
  clear b3 o3 d0 z0 d1 z1 d2 z2 d3 z3 d4 z4 d5 z5 d6 z6 d7 z7 d8 z8 d9 z9 d10 z10 d11 z11 d12 z12 d13 z13 d14 z14 d15 z15 d16 z16 zf
  have lz3 := HS.out.z.lt
  obtain ⟨⟨_, d0, d1, d2, d3, d4, d5, d6, d7, d8, d9, d10, d11, d12, d13, d14, d15, d16⟩, -, ⟨_, z0, z1, z2, z3, z4, z5, z6, z7, z8, z9, z10, z11, z12, z13, z14, z15, z16, zf⟩, -⟩ := HS.out
  go_wp2_with fail
  refine (toPos_any ggb1 ggb2 ggbn1 ggbc1 ggbn2 ggbc2 ggbp nx ny _ (H.out.n.below ((HS.out.setM (.slice (some ⟨g3, 0, none⟩) ggmn ggmn)).b))).mono ?_
  rintro e u4 ⟨g4, g5, rfl, o4, l4, l5, b4⟩
  have n4 : u3.heap.size ≤ g4 := by have := o4.o1.new; simpa using this
  have n5 : u3.heap.size ≤ g5 := by have := o4.o2.new; simpa using this
  have e4 : w.heap.size + 1 + 1 < g4 := by have := o4.o1.new; simp at this; omega
  have e5 : w.heap.size + 1 + 1 < g5 := by have := o4.o2.new; simp at this; omega
  have O4 := Lib.hid (o4.lower (C := w.heap.size) (by simp; omega))
  have O3 := Lib.hid ((O3.out.but (but_setM (w.heap.size + 1 + 1) u3 (.slice (some ⟨g3, 0, none⟩) ggmn ggmn)) (by omega)).below b4)
  have O2 := Lib.hid ((O2.out.but (but_setM (w.heap.size + 1 + 1) u3 (.slice (some ⟨g3, 0, none⟩) ggmn ggmn)) (by omega) (by omega)).below b4)
  have HS := Lib.hid ((HS.out.setM (.slice (some ⟨g3, 0, none⟩) ggmn ggmn)).below b4)
  have s4 := b4.size
  simp at s4
  clear b4 o4 d0 z0 d1 z1 d2 z2 d3 z3 d4 z4 d5 z5 d6 z6 d7 z7 d8 z8 d9 z9 d10 z10 d11 z11 d12 z12 d13 z13 d14 z14 d15 z15 d16 z16 zf
  have d16 := HS.out.a.2.2.2.2.2.2.2.2.2.2.2.2.2.2.2.2.2
  have z13 := HS.out.z.c13
  have z14 := HS.out.z.c14
  have z15 := HS.out.z.c15
  have z16 := HS.out.z.c16
  have zf := HS.out.z.fr
  have HE := Lib.hid ((HS.out.setN (.slice (some ⟨g4, 0, none⟩) ggbn1 ggbn1) (.slice (some ⟨g5, 0, none⟩) ggbn2 ggbn2) (.int .i64 ggbp)).setG (.int .i64 ggrg))
  go_upto_region 7 with fail
  go_step
  have hrg := TGm.rg HE.out.z
  have hth := HE.out.r.there
  refine wpList_load_mid rfl 31 (.tmp 3) rfl (w.heap.size + 1 + 1) 0 rfl _ _ hrg Try.underlying31 rfl (by kernel_rfl) ?_
  refine wpList_store_mid rfl 31 (.tmp 2) (.tmp 23) rfl (w.heap.size + 1) 0 (List.toArray [.int .i64 ggp, .int .i64 ggs, .bool ggst, .bool ggsk, .bool ggre, .bool ggfe, .bool ggag, .int .i64 ggc, .int .i64 ggl, .slice (some ⟨g1, 0, none⟩) ggan1 ggan1, .slice (some ⟨g2, 0, none⟩) ggan2 ggan2, .int .i64 ggap, .slice (some ⟨g3, 0, none⟩) ggmn ggmn, .slice (some ⟨g4, 0, none⟩) ggbn1 ggbn1, .slice (some ⟨g5, 0, none⟩) ggbn2 ggbn2, .int .i64 ggbp, .int .i64 ggrg]) rfl rfl hth (by kernel_rfl) (gm_one _ _ _ _ _ _ _ _ _ _ _ _ _ _ _ _ _ _ _ _ _ _ _ _ _ _ _) ?_
  clear hrg hth
  simp only [Act.put, List.setIfInBounds_toArray, List.set_cons_zero, List.set_cons_succ]
  go_wp2_with fail
  have hrun := run_loadVar_mid (P := Try.prog) _ (w.heap.size + 1) 0 31 [.int .i64 ggp, .int .i64 ggs, .bool ggst, .bool ggsk, .bool ggre, .bool ggfe, .bool ggag, .int .i64 ggc, .int .i64 ggl, .slice (some ⟨g1, 0, none⟩) ggan1 ggan1, .slice (some ⟨g2, 0, none⟩) ggan2 ggan2, .int .i64 ggap, .slice (some ⟨g3, 0, none⟩) ggmn ggmn, .slice (some ⟨g4, 0, none⟩) ggbn1 ggbn1, .slice (some ⟨g5, 0, none⟩) ggbn2 ggbn2, .int .i64 ggbp, .int .i64 ggrg] _ (World.rangeAt_setCells_same _ (w.heap.size + 1) 0 [.int .i64 ggp, .int .i64 ggs, .bool ggst, .bool ggsk, .bool ggre, .bool ggfe, .bool ggag, .int .i64 ggc, .int .i64 ggl, .slice (some ⟨g1, 0, none⟩) ggan1 ggan1, .slice (some ⟨g2, 0, none⟩) ggan2 ggan2, .int .i64 ggap, .slice (some ⟨g3, 0, none⟩) ggmn ggmn, .slice (some ⟨g4, 0, none⟩) ggbn1 ggbn1, .slice (some ⟨g5, 0, none⟩) ggbn2 ggbn2, .int .i64 ggbp, .int .i64 ggrg] HE.out.r.there) Try.underlying31 rfl (by kernel_rfl)
  refine bodyPost_ret (v := .agg (List.toArray [.int .i64 ggp, .int .i64 ggs, .bool ggst, .bool ggsk, .bool ggre, .bool ggfe, .bool ggag, .int .i64 ggc, .int .i64 ggl, .slice (some ⟨g1, 0, none⟩) ggan1 ggan1, .slice (some ⟨g2, 0, none⟩) ggan2 ggan2, .int .i64 ggap, .slice (some ⟨g3, 0, none⟩) ggmn ggmn, .slice (some ⟨g4, 0, none⟩) ggbn1 ggbn1, .slice (some ⟨g5, 0, none⟩) ggbn2 ggbn2, .int .i64 ggbp, .int .i64 ggrg])) ?_ rfl ⟨g1, g2, g3, g4, g5, rfl, ⟨?_, ?_, H.out.lm, ?_⟩, ?_, ?_, ?_⟩
  · simp [results, Try.results20, asAddr, hrun]
  · exact (((O2.out.but (but_setN (w.heap.size + 1 + 1) u4 (.slice (some ⟨g4, 0, none⟩) ggbn1 ggbn1) (.slice (some ⟨g5, 0, none⟩) ggbn2 ggbn2) (.int .i64 ggbp)) (by omega) (by omega)).but (but_setG (w.heap.size + 1 + 1) _ (.int .i64 ggrg)) (by omega) (by omega)).but (but_scg (w.heap.size + 1) [.int .i64 ggp, .int .i64 ggs, .bool ggst, .bool ggsk, .bool ggre, .bool ggfe, .bool ggag, .int .i64 ggc, .int .i64 ggl, .slice (some ⟨g1, 0, none⟩) ggan1 ggan1, .slice (some ⟨g2, 0, none⟩) ggan2 ggan2, .int .i64 ggap, .slice (some ⟨g3, 0, none⟩) ggmn ggmn, .slice (some ⟨g4, 0, none⟩) ggbn1 ggbn1, .slice (some ⟨g5, 0, none⟩) ggbn2 ggbn2, .int .i64 ggbp, .int .i64 ggrg] 0 (But.refl _ _)) (by omega) (by omega))
  · exact (((O3.out.but (but_setN (w.heap.size + 1 + 1) u4 (.slice (some ⟨g4, 0, none⟩) ggbn1 ggbn1) (.slice (some ⟨g5, 0, none⟩) ggbn2 ggbn2) (.int .i64 ggbp)) (by omega)).but (but_setG (w.heap.size + 1 + 1) _ (.int .i64 ggrg)) (by omega)).but (but_scg (w.heap.size + 1) [.int .i64 ggp, .int .i64 ggs, .bool ggst, .bool ggsk, .bool ggre, .bool ggfe, .bool ggag, .int .i64 ggc, .int .i64 ggl, .slice (some ⟨g1, 0, none⟩) ggan1 ggan1, .slice (some ⟨g2, 0, none⟩) ggan2 ggan2, .int .i64 ggap, .slice (some ⟨g3, 0, none⟩) ggmn ggmn, .slice (some ⟨g4, 0, none⟩) ggbn1 ggbn1, .slice (some ⟨g5, 0, none⟩) ggbn2 ggbn2, .int .i64 ggbp, .int .i64 ggrg] 0 (But.refl _ _)) (by omega))
  · exact (((O4.out.but (but_setN (w.heap.size + 1 + 1) u4 (.slice (some ⟨g4, 0, none⟩) ggbn1 ggbn1) (.slice (some ⟨g5, 0, none⟩) ggbn2 ggbn2) (.int .i64 ggbp)) (by omega) (by omega)).but (but_setG (w.heap.size + 1 + 1) _ (.int .i64 ggrg)) (by omega) (by omega)).but (but_scg (w.heap.size + 1) [.int .i64 ggp, .int .i64 ggs, .bool ggst, .bool ggsk, .bool ggre, .bool ggfe, .bool ggag, .int .i64 ggc, .int .i64 ggl, .slice (some ⟨g1, 0, none⟩) ggan1 ggan1, .slice (some ⟨g2, 0, none⟩) ggan2 ggan2, .int .i64 ggap, .slice (some ⟨g3, 0, none⟩) ggmn ggmn, .slice (some ⟨g4, 0, none⟩) ggbn1 ggbn1, .slice (some ⟨g5, 0, none⟩) ggbn2 ggbn2, .int .i64 ggbp, .int .i64 ggrg] 0 (But.refl _ _)) (by omega) (by omega))
  · rw [size_scg]
    simp
    omega
  · constructor <;> first | omega | (rw [size_scg]; simp; omega)
  · exact below_scg (w.heap.size + 1) (by omega) [.int .i64 ggp, .int .i64 ggs, .bool ggst, .bool ggsk, .bool ggre, .bool ggfe, .bool ggag, .int .i64 ggc, .int .i64 ggl, .slice (some ⟨g1, 0, none⟩) ggan1 ggan1, .slice (some ⟨g2, 0, none⟩) ggan2 ggan2, .int .i64 ggap, .slice (some ⟨g3, 0, none⟩) ggmn ggmn, .slice (some ⟨g4, 0, none⟩) ggbn1 ggbn1, .slice (some ⟨g5, 0, none⟩) ggbn2 ggbn2, .int .i64 ggbp, .int .i64 ggrg] 0 HE.out.b
end Go.Proofs.Ytenpnilljjfmkaa

/- Et8 -/
namespace Go.Proofs.Ytenpnilljjfmkaa
open Go.Joins Go.ChangeShapes Go.WideShapes Go.ChangeAt Go.RowKit Go.Deep
set_option linter.unusedVariables false

theorem nvs_take (xs : List Int) {k : Nat} {y : Int} (h : xs[k]? = some y) : nvs (xs.take (k + 1)) = nvs (xs.take k) ++ nvs [y] := by
  rw [List.take_add_one, h, nvs_app]
  rfl
/-- Each position of a game is as its start. -/
theorem run_all {p s c l : Int} {st sk re fe ag : Bool} {n1 : Nat} : ∀ {ms : List Int} {q : Ps} {rs : List R7}, OkQ p s c l st ag n1 q → runO (stp p c l st sk re fe ag) q ms = some rs → ∀ y ∈ q :: rs.map R7.ps, OkQ p s c l st ag n1 y
  | [], q, rs, h, hr => by
    cases hr
    intro y hy
    simp only [List.map_nil, List.mem_cons, List.not_mem_nil, or_false] at hy
    rw [hy]
    exact h
  | a :: ms, q, rs, h, hr => by
    unfold runO at hr
    cases hf : stp p c l st sk re fe ag q a with
    | none => rw [hf] at hr; cases hr
    | some r =>
      rw [hf] at hr
      simp only at hr
      cases hr2 : runO (stp p c l st sk re fe ag) r.ps ms with
      | none => rw [hr2] at hr; cases hr
      | some rs2 =>
        rw [hr2] at hr
        cases hr
        intro y hy
        rcases List.mem_cons.1 hy with rfl | hy
        · exact h
        · exact run_all (stp_ok h hf) hr2 y hy
/-- The gain of each move. -/
theorem run_gn {p c l : Int} {st sk re fe ag : Bool} : ∀ {ms : List Int} {q : Ps} {rs : List R7}, runO (stp p c l st sk re fe ag) q ms = some rs → ∀ (i : Nat) (r : R7) (y : Ps), rs[i]? = some r → (q :: rs.map R7.ps)[i]? = some y → r.gn = r.ys.getD y.pl.toNat 0 - y.ys.getD y.pl.toNat 0
  | [], q, rs, hr => by
    cases hr
    intro i r y h
    cases h
  | a :: ms, q, rs, hr => by
    unfold runO at hr
    cases hf : stp p c l st sk re fe ag q a with
    | none => rw [hf] at hr; cases hr
    | some r0 =>
      rw [hf] at hr
      simp only at hr
      cases hr2 : runO (stp p c l st sk re fe ag) r0.ps ms with
      | none => rw [hr2] at hr; cases hr
      | some rs2 =>
        rw [hr2] at hr
        cases hr
        intro i r y h1 h2
        cases i with
        | zero =>
          cases h1
          cases h2
          unfold stp at hf
          cases hl : lgV c l p q.pl fe q.xs (mvV true p q.pl st sk re q.xs q.ys a) with
          | none => rw [hl] at hf; cases hf
          | some m =>
            rw [hl] at hf
            cases hf
            rfl
        | succ i => exact run_gn hr2 i r y (by simpa using h1) (by simpa using h2)
/-- What eachTurn leaves. -/
def EtP (f : T21 × Q21 → Int) (g : Ps → Int → Option R7) (q0 : Ps) (ms : List Int) (ok : Bool) (w : World) (e : Ending) (w' : World) : Prop :=
  if ok = true then ∃ (v : Value) (L : List (T21 × Q21)) (q : Ps) (rs : List R7), e = .returned (.tuple #[v, .int .i64 0]) ∧ w'.ownsRow w.heap.size 2 1 v L.length (nvs (L.map f)) ∧ runO g q0 ms = some rs ∧ L.map (fun x => x.1.r) = rs ∧ L.map (fun x => x.1.q) ++ [q] = q0 :: rs.map R7.ps ∧ Below w.heap.size w w'
  else e = .returned (.tuple #[.slice none 0 0, .int .i64 1]) ∧ Below w.heap.size w w'
theorem b21_rg {wr X : World} (p s c l : Int) (st sk re fe ag : Bool) {n1 : Nat} {x : T21 × Q21} (T : TypeId) (hX : X = (wr.alloc (.cells zero21.toArray T)).setCells wr.heap.size 0 (cells21 p s c l st sk re fe ag n1 x)) :
    X.rangeAt wr.heap.size 0 (cells21 p s c l st sk re fe ag n1 x) ∧ Below wr.heap.size wr X := by
  have hr := World.rangeAt_setCells_same (wr.alloc (.cells zero21.toArray T)) wr.heap.size 0 (cells21 p s c l st sk re fe ag n1 x) (thN_new wr T).th
  rw [← hX] at hr
  exact ⟨hr, by rw [hX]; exact below_scg wr.heap.size (Nat.le_refl _) _ 0 (al1 wr _)⟩
set_option maxHeartbeats 4000000 in
set_option maxRecDepth 100000 in
theorem each_gain (f : T21 × Q21 → Int) (ggp ggs ggc ggl : Int) (ggst ggsk ggre ggfe ggag : Bool) (gga1 gga2 : Option Addr) (ggan1 ggac1 ggan2 ggac2 : Nat) (ggap : Int) (ggm : Option Addr) (ggmn ggmc : Nat) (ggb1 ggb2 : Option Addr) (ggbn1 ggbc1 ggbn2 ggbc2 : Nat) (ggbp ggrg : Int) (sx sy ms nx ny : List Int) (w : World) (h : GamR w gga1 gga2 ggan1 ggan2 ggm ggmn ggb1 ggb2 ggbn1 ggbn2 sx sy ms nx ny)
    (hf : ∀ (w0 v : World) (pb b1 e1 b2 e2 : Nat) (sp : Int) (sx sy : List Int) (v1 v2 : Value) (ms : List Int) (L : List (T21 × Q21)) (h1 d1 h2 d2 : Nat) (q : Ps) (rg : Int) (R : List (Nat × List Int)) (x : T21 × Q21), PlK w0 pb ggp ggs ggc ggl ggst ggsk ggre ggfe ggag ggan1 b1 e1 b2 e2 sp sx sy v1 v2 ms L h1 d1 h2 d2 q rg R v → x ∈ L → OkQ ggp ggs ggc ggl ggst ggag ggan1 x.1.q → OkQ ggp ggs ggc ggl ggst ggag ggan1 x.1.r.ps → Calls Try.prog 46 #[.agg (cells21 ggp ggs ggc ggl ggst ggsk ggre ggfe ggag ggan1 x).toArray] v (BelP (.int .i64 (f x)) v)) :
    Calls Try.prog 42 #[.agg #[.int .i64 ggp, .int .i64 ggs, .bool ggst, .bool ggsk, .bool ggre, .bool ggfe, .bool ggag, .int .i64 ggc, .int .i64 ggl, .slice gga1 ggan1 ggac1, .slice gga2 ggan2 ggac2, .int .i64 ggap, .slice ggm ggmn ggmc, .slice ggb1 ggbn1 ggbc1, .slice ggb2 ggbn2 ggbc2, .int .i64 ggbp, .int .i64 ggrg], .func (.func 46) #[] #[]] w (EtP f (stp ggp ggc ggl ggst ggsk ggre ggfe ggag) ⟨ggap, sx, sy⟩ ms (okG ggp ggs ggc ggl ggst ggsk ggre ggfe ggag ggan1 ggan2 ggap sx sy ms ggbp nx ny ggrg) w) := by
  have HB := Lib.hid (gmb_new ggp ggs ggc ggl ggst ggsk ggre ggfe ggag gga1 gga2 ggan1 ggac1 ggan2 ggac2 ggap ggm ggmn ggmc ggb1 ggb2 ggbn1 ggbc1 ggbn2 ggbc2 ggbp ggrg w 31)
  have HRg := Lib.hid (GmAt.range HB.out.1)
  have HC := Lib.hid (replay_any ggp ggs ggc ggl ggst ggsk ggre ggfe ggag gga1 gga2 ggan1 ggac1 ggan2 ggac2 ggap ggm ggmn ggmc ggb1 ggb2 ggbn1 ggbc1 ggbn2 ggbc2 ggbp ggrg sx sy ms nx ny _ (h.below HB.out.2))
  have H := Lib.hid h
  have HF := Lib.hid hf
  obtain ⟨i1, hi1, hy0, hy1, hy2⟩ := info_parts infoN
  clear h hf
  cases hok : okG ggp ggs ggc ggl ggst ggsk ggre ggfe ggag ggan1 ggan2 ggap sx sy ms ggbp nx ny ggrg
  · rw [hok] at HC
    clear hok hi1 hy0 hy1 hy2
    go_enter Try.func42, Try.ntmps42
    go_wp2_with (refine wpList_load_mid rfl 31 _ rfl w.heap.size 0 rfl _ _ HRg.out Try.underlying31 rfl (by kernel_rfl) ?_)
    refine HC.out.mono ?_
    intro e u hq
    obtain ⟨cs, hc1, hc2, rfl, hb⟩ := hq.d
    have HCs := Lib.hid (And.intro hc1 hc2)
    have HB := Lib.hid (HB.out.below hb)
    clear hq hb hc1 hc2 HRg
    go_wp2_with (refine wpList_store_mid rfl 61 _ _ rfl u.heap.size 0 cs.toArray rfl rfl (by rw [show cs.toArray.size = 18 from by simpa using HCs.out.1]; exact there18 u 61) (by rw [show cs.toArray.size = 18 from by simpa using HCs.out.1]; kernel_rfl) HCs.out.2 ?_)
    go_ret2
    unfold EtP
    rw [if_neg (by decide)]
    exact ⟨rfl, OnW.of9 HB.out.2 (below_scg u.heap.size (Nat.le_refl _) cs 0 (al1 u _))⟩
  · rw [hok] at HC
    have Hok := Lib.hid hok
    clear hok
    go_enter Try.func42, Try.ntmps42
    go_wp2_with (refine wpList_load_mid rfl 31 _ rfl w.heap.size 0 rfl _ _ HRg.out Try.underlying31 rfl (by kernel_rfl) ?_)
    refine HC.out.mono ?_
    intro e u hq
    unfold RpP at hq
    rw [if_pos rfl] at hq
    obtain ⟨pb, b1, e1, b2, e2, v1, v2, L, h1, d1, h2, d2, q, R, rs, rfl, hP, hro, hq1, hL1, hL2⟩ := hq
    obtain ⟨hk, h120, -, -⟩ := okG_parts Hok.out
    obtain ⟨-, -, hn2, -, -⟩ := okP_parts hk
    have hall := run_all (s := ggs) (n1 := ggan1) ⟨hn2 ▸ hk, H.out.s.l1, H.out.s.l2.trans hn2⟩ hro
    have HQ : Hid (∀ x ∈ L, OkQ ggp ggs ggc ggl ggst ggag ggan1 x.1.q ∧ OkQ ggp ggs ggc ggl ggst ggag ggan1 x.1.r.ps) := Lib.hid (fun x hx => ⟨hall _ (by rw [← hL2]; exact List.mem_append_left _ (List.mem_map_of_mem hx)), hall _ (List.mem_cons_of_mem _ (List.mem_map_of_mem (by rw [← hL1]; exact List.mem_map_of_mem hx)))⟩)
    have HE := Lib.hid (And.intro hro (And.intro hL1 hL2))
    obtain ⟨va, vc, rfl⟩ := slice_own hP.mo
    obtain ⟨ta, tc, rfl⟩ := slice_own hP.tu
    have hLn : L.length ≤ 120 := by
      have e1 := runO_len hro
      have e2 := congrArg List.length hL1
      rw [List.length_map] at e2
      omega
    have HP := Lib.hid hP
    have HB := Lib.hid (HB.out.2.trans (hP.be.mono HB.out.2.size))
    obtain ⟨cs, hcs⟩ : ∃ cs, cs = vals18 ggp ggs ggc ggl ggst ggsk ggre ggfe ggag ggan1 b1 e1 b2 e2 ggap (.slice va ms.length vc) (.slice ta L.length tc) h1 d1 h2 d2 q.pl ggrg := ⟨_, rfl⟩
    have HCs := Lib.hid (show cs.length = 18 ∧ cs.toArray.all (·.oneCell') = true from by rw [hcs]; exact ⟨rfl, vals18_one _ _ _ _ _ _ _ _ _ _ _ _ _ _ _ _ _ _ _ _ _ _ _ _ _ _ _⟩)
    rw [← hcs]
    have Hcs := Lib.hid hcs
    clear hcs hP hro hq1 hL1 hL2 HRg HC hall hk h120 hn2
    go_upto_region 2 with (refine wpList_store_mid rfl 61 _ _ rfl u.heap.size 0 cs.toArray rfl rfl (by rw [show cs.toArray.size = 18 from by simpa using HCs.out.1]; exact there18 u 61) (by rw [show cs.toArray.size = 18 from by simpa using HCs.out.1]; kernel_rfl) HCs.out.2 ?_)
    generalize hX : World.setCells _ _ _ _ = X
    have hM := HP.out.move 61 X (by rw [← Hcs.out]; exact hX.symm)
    have HP := Lib.hid hM.1
    have HB := Lib.hid (OnW.of9 HB.out hM.2)
    have t17 := hM.1.tv
    obtain ⟨N, hN⟩ : ∃ N, N = L.length := ⟨_, rfl⟩
    have HN := Lib.hid hN
    rw [← hN] at hLn t17
    have hpl : u.heap.size < X.heap.size := hM.1.g.lt
    generalize u.heap.size = M at *
    clear hX hM Hcs HCs hN
    go_wp2_with fail
    have HBX := Lib.hid (show OnW w X from HB.out)
    clear HB
    go_loopw [8, 22] (fun v8 i wr => ∃ k : Nat, i = .int .i64 k ∧ k ≤ N ∧ Below X.heap.size X wr ∧ wr.ownsRow X.heap.size 2 1 v8 k (nvs ((L.map f).take k))) (fun _ i _ => N - (intOf i).toNat)
    case atStart => exact ⟨0, rfl, Nat.zero_le _, Below.refl _ _, World.ownsRow_nil _ _ _ _⟩
    case round =>
      obtain ⟨k, rfl, hkN, hbw, hown⟩ := hrel
      have HPr := Lib.hid (HP.out.below hbw)
      have Hbw := Lib.hid hbw
      have Hown := Lib.hid hown
      clear hbw hown t17
      by_cases hlt : k < N
      · obtain ⟨x, hx⟩ : ∃ x, L[k]? = some x := ⟨L[k]'(by rw [← HN.out]; exact hlt), List.getElem?_eq_getElem _⟩
        obtain ⟨g, c', hg⟩ := slice_some HPr.out.tu (by have := HN.out; omega)
        simp only [Value.slice.injEq] at hg
        obtain ⟨rfl, -, rfl⟩ := hg
        have hx1 : (L.map f)[k]? = some (f x) := by rw [List.getElem?_map, hx]; rfl
        have HNx := Lib.hid (nvs_take (L.map f) hx1)
        have HRg : Hid (∀ o, o = k * 21 → wr.rangeAt g o (cells21 ggp ggs ggc ggl ggst ggsk ggre ggfe ggag ggan1 x)) := Lib.hid (fun o ho => by rw [ho]; exact HPr.out.rgL hx)
        have HOne := Lib.hid (all_oneCell_toArray (cells21_one (p := ggp) (s := ggs) (c := ggc) (l := ggl) (st := ggst) (sk := ggsk) (re := ggre) (fe := ggfe) (ag := ggag) (n1 := ggan1) x))
        have HTh := Lib.hid (thN_new wr 79)
        have HBf := Lib.hid (List.mem_of_getElem? hx)
        have HQx := Lib.hid (HQ.out x HBf.out)
        obtain ⟨y, hy⟩ : ∃ y, f x = y := ⟨_, rfl⟩
        rw [hy] at HNx
        have HFx : Hid (∀ w0 v, PlK w0 M ggp ggs ggc ggl ggst ggsk ggre ggfe ggag ggan1 b1 e1 b2 e2 ggap sx sy (.slice va ms.length vc) (.slice (some ⟨g, 0, none⟩) L.length tc) ms L h1 d1 h2 d2 q ggrg R v → Calls Try.prog 46 #[.agg (cells21 ggp ggs ggc ggl ggst ggsk ggre ggfe ggag ggan1 x).toArray] v (BelP (.int .i64 y) v)) := Lib.hid (fun w0 v k => by rw [← hy]; exact HF.out _ _ _ _ _ _ _ _ _ _ _ _ _ _ _ _ _ _ _ _ _ x k HBf.out HQx.out.1 HQx.out.2)
        clear hy
        have k0 : (0 : Int) ≤ (k : Int) := by omega
        have kq : (k : Int) < (N : Int) := by omega
        clear hx hx1
        go_upto_region 8 with (first | (refine wpList_load_mid rfl 79 _ rfl g _ rfl _ _ (HRg.out _ (by simp)) Try.underlying79 rfl (by kernel_rfl) ?_) | (refine wpList_store_mid rfl 79 _ _ rfl wr.heap.size 0 (cells21 ggp ggs ggc ggl ggst ggsk ggre ggfe ggag ggan1 x).toArray rfl rfl HTh.out.th (by kernel_rfl) HOne.out ?_))
        generalize hX2 : World.setCells _ _ _ _ = X2
        have hM := b21_rg _ _ _ _ _ _ _ _ _ 79 hX2.symm
        have HRm := Lib.hid hM.1
        have HP2 := Lib.hid (HPr.out.below hM.2)
        have HB2 := Lib.hid (Below.trans Hbw.out (hM.2.mono Hbw.out.size))
        have Hown2 := Lib.hid (own_keepS Hown.out hM.2)
        generalize wr.heap.size = M2 at *
        clear hX2 hM
        go_wp2_with (refine wpList_load_mid rfl 79 _ rfl M2 0 rfl _ _ HRm.out Try.underlying79 rfl (by kernel_rfl) ?_)
        refine (HFx.out _ _ HP2.out).mono ?_
        rintro e w7 ⟨rfl, hb⟩
        have HB7 := Lib.hid (Below.trans HB2.out (hb.mono HB2.out.size))
        have Hown7 := Lib.hid (own_keepS Hown2.out hb)
        have hbase7 := HB7.out.size
        have hk120 : k < 120 := by omega
        clear hb
        go_wp2_with (at_builtin; refine wpList_append_lies _ rfl _ _ 24 rfl X.heap.size 2 i1 (.int .i64 0) 1 8 Try.underlying24 hi1 hy0 hy1 hy2 rfl (by decide) u8 k (nvs ((L.map f).take k)) rfl (own_keepS Hown7.out (al1 _ _)) ⟨w7.heap.size, 0, none⟩ 1 1 (nvs [y]) rfl (by simp [nvs]) (row_news (row_oneL w7 y 2)) (nvs_cell _) (by decide) (by unfold maxLen; omega) (by omega) (by simp; omega) _ rfl ?_; intro g' cap' w9 hown9 hgrow9 hat9 hlt9)
        have HB9 := Lib.hid ((Below.alloc HB7.out HB7.out.size (.cells #[.int .i64 y] 2)).grown hgrow9 (by simp; omega) (fun j hj => (own_lt Hown7.out j hj).1))
        have Hown9 := Lib.hid hown9
        clear hown9 hgrow9 hat9 hlt9
        go_wp2_with fail
        go_roundw
        case rel => exact ⟨k + 1, by go_num, by omega, HB9.out, by rw [HNx.out]; exact Hown9.out⟩
        case measure => simp [intOf]; omega
      · obtain rfl : k = N := by omega
        rw [List.take_of_length_le (by rw [List.length_map, ← HN.out]; exact Nat.le_refl _)] at Hown
        obtain ⟨va8, vc8, rfl⟩ := slice_own Hown.out
        go_wp2_with fail
        go_ret2
        unfold EtP
        rw [if_pos rfl]
        have hz := HBX.out.size
        refine ⟨_, L, q, rs, rfl, ?_, HE.out.1, HE.out.2.1, HE.out.2.2, Below.trans HBX.out (Hbw.out.mono hz)⟩
        rw [← HN.out]
        exact own_lower Hown.out hz
set_option maxHeartbeats 4000000 in
set_option maxRecDepth 100000 in
theorem each_mover (f : T21 × Q21 → Int) (ggp ggs ggc ggl : Int) (ggst ggsk ggre ggfe ggag : Bool) (gga1 gga2 : Option Addr) (ggan1 ggac1 ggan2 ggac2 : Nat) (ggap : Int) (ggm : Option Addr) (ggmn ggmc : Nat) (ggb1 ggb2 : Option Addr) (ggbn1 ggbc1 ggbn2 ggbc2 : Nat) (ggbp ggrg : Int) (sx sy ms nx ny : List Int) (w : World) (h : GamR w gga1 gga2 ggan1 ggan2 ggm ggmn ggb1 ggb2 ggbn1 ggbn2 sx sy ms nx ny)
    (hf : ∀ (w0 v : World) (pb b1 e1 b2 e2 : Nat) (sp : Int) (sx sy : List Int) (v1 v2 : Value) (ms : List Int) (L : List (T21 × Q21)) (h1 d1 h2 d2 : Nat) (q : Ps) (rg : Int) (R : List (Nat × List Int)) (x : T21 × Q21), PlK w0 pb ggp ggs ggc ggl ggst ggsk ggre ggfe ggag ggan1 b1 e1 b2 e2 sp sx sy v1 v2 ms L h1 d1 h2 d2 q rg R v → x ∈ L → OkQ ggp ggs ggc ggl ggst ggag ggan1 x.1.q → OkQ ggp ggs ggc ggl ggst ggag ggan1 x.1.r.ps → Calls Try.prog 43 #[.agg (cells21 ggp ggs ggc ggl ggst ggsk ggre ggfe ggag ggan1 x).toArray] v (BelP (.int .i64 (f x)) v)) :
    Calls Try.prog 42 #[.agg #[.int .i64 ggp, .int .i64 ggs, .bool ggst, .bool ggsk, .bool ggre, .bool ggfe, .bool ggag, .int .i64 ggc, .int .i64 ggl, .slice gga1 ggan1 ggac1, .slice gga2 ggan2 ggac2, .int .i64 ggap, .slice ggm ggmn ggmc, .slice ggb1 ggbn1 ggbc1, .slice ggb2 ggbn2 ggbc2, .int .i64 ggbp, .int .i64 ggrg], .func (.func 43) #[] #[]] w (EtP f (stp ggp ggc ggl ggst ggsk ggre ggfe ggag) ⟨ggap, sx, sy⟩ ms (okG ggp ggs ggc ggl ggst ggsk ggre ggfe ggag ggan1 ggan2 ggap sx sy ms ggbp nx ny ggrg) w) := by
  have HB := Lib.hid (gmb_new ggp ggs ggc ggl ggst ggsk ggre ggfe ggag gga1 gga2 ggan1 ggac1 ggan2 ggac2 ggap ggm ggmn ggmc ggb1 ggb2 ggbn1 ggbc1 ggbn2 ggbc2 ggbp ggrg w 31)
  have HRg := Lib.hid (GmAt.range HB.out.1)
  have HC := Lib.hid (replay_any ggp ggs ggc ggl ggst ggsk ggre ggfe ggag gga1 gga2 ggan1 ggac1 ggan2 ggac2 ggap ggm ggmn ggmc ggb1 ggb2 ggbn1 ggbc1 ggbn2 ggbc2 ggbp ggrg sx sy ms nx ny _ (h.below HB.out.2))
  have H := Lib.hid h
  have HF := Lib.hid hf
  obtain ⟨i1, hi1, hy0, hy1, hy2⟩ := info_parts infoN
  clear h hf
  cases hok : okG ggp ggs ggc ggl ggst ggsk ggre ggfe ggag ggan1 ggan2 ggap sx sy ms ggbp nx ny ggrg
  · rw [hok] at HC
    clear hok hi1 hy0 hy1 hy2
    go_enter Try.func42, Try.ntmps42
    go_wp2_with (refine wpList_load_mid rfl 31 _ rfl w.heap.size 0 rfl _ _ HRg.out Try.underlying31 rfl (by kernel_rfl) ?_)
    refine HC.out.mono ?_
    intro e u hq
    obtain ⟨cs, hc1, hc2, rfl, hb⟩ := hq.d
    have HCs := Lib.hid (And.intro hc1 hc2)
    have HB := Lib.hid (HB.out.below hb)
    clear hq hb hc1 hc2 HRg
    go_wp2_with (refine wpList_store_mid rfl 61 _ _ rfl u.heap.size 0 cs.toArray rfl rfl (by rw [show cs.toArray.size = 18 from by simpa using HCs.out.1]; exact there18 u 61) (by rw [show cs.toArray.size = 18 from by simpa using HCs.out.1]; kernel_rfl) HCs.out.2 ?_)
    go_ret2
    unfold EtP
    rw [if_neg (by decide)]
    exact ⟨rfl, OnW.of9 HB.out.2 (below_scg u.heap.size (Nat.le_refl _) cs 0 (al1 u _))⟩
  · rw [hok] at HC
    have Hok := Lib.hid hok
    clear hok
    go_enter Try.func42, Try.ntmps42
    go_wp2_with (refine wpList_load_mid rfl 31 _ rfl w.heap.size 0 rfl _ _ HRg.out Try.underlying31 rfl (by kernel_rfl) ?_)
    refine HC.out.mono ?_
    intro e u hq
    unfold RpP at hq
    rw [if_pos rfl] at hq
    obtain ⟨pb, b1, e1, b2, e2, v1, v2, L, h1, d1, h2, d2, q, R, rs, rfl, hP, hro, hq1, hL1, hL2⟩ := hq
    obtain ⟨hk, h120, -, -⟩ := okG_parts Hok.out
    obtain ⟨-, -, hn2, -, -⟩ := okP_parts hk
    have hall := run_all (s := ggs) (n1 := ggan1) ⟨hn2 ▸ hk, H.out.s.l1, H.out.s.l2.trans hn2⟩ hro
    have HQ : Hid (∀ x ∈ L, OkQ ggp ggs ggc ggl ggst ggag ggan1 x.1.q ∧ OkQ ggp ggs ggc ggl ggst ggag ggan1 x.1.r.ps) := Lib.hid (fun x hx => ⟨hall _ (by rw [← hL2]; exact List.mem_append_left _ (List.mem_map_of_mem hx)), hall _ (List.mem_cons_of_mem _ (List.mem_map_of_mem (by rw [← hL1]; exact List.mem_map_of_mem hx)))⟩)
    have HE := Lib.hid (And.intro hro (And.intro hL1 hL2))
    obtain ⟨va, vc, rfl⟩ := slice_own hP.mo
    obtain ⟨ta, tc, rfl⟩ := slice_own hP.tu
    have hLn : L.length ≤ 120 := by
      have e1 := runO_len hro
      have e2 := congrArg List.length hL1
      rw [List.length_map] at e2
      omega
    have HP := Lib.hid hP
    have HB := Lib.hid (HB.out.2.trans (hP.be.mono HB.out.2.size))
    obtain ⟨cs, hcs⟩ : ∃ cs, cs = vals18 ggp ggs ggc ggl ggst ggsk ggre ggfe ggag ggan1 b1 e1 b2 e2 ggap (.slice va ms.length vc) (.slice ta L.length tc) h1 d1 h2 d2 q.pl ggrg := ⟨_, rfl⟩
    have HCs := Lib.hid (show cs.length = 18 ∧ cs.toArray.all (·.oneCell') = true from by rw [hcs]; exact ⟨rfl, vals18_one _ _ _ _ _ _ _ _ _ _ _ _ _ _ _ _ _ _ _ _ _ _ _ _ _ _ _⟩)
    rw [← hcs]
    have Hcs := Lib.hid hcs
    clear hcs hP hro hq1 hL1 hL2 HRg HC hall hk h120 hn2
    go_upto_region 2 with (refine wpList_store_mid rfl 61 _ _ rfl u.heap.size 0 cs.toArray rfl rfl (by rw [show cs.toArray.size = 18 from by simpa using HCs.out.1]; exact there18 u 61) (by rw [show cs.toArray.size = 18 from by simpa using HCs.out.1]; kernel_rfl) HCs.out.2 ?_)
    generalize hX : World.setCells _ _ _ _ = X
    have hM := HP.out.move 61 X (by rw [← Hcs.out]; exact hX.symm)
    have HP := Lib.hid hM.1
    have HB := Lib.hid (OnW.of9 HB.out hM.2)
    have t17 := hM.1.tv
    obtain ⟨N, hN⟩ : ∃ N, N = L.length := ⟨_, rfl⟩
    have HN := Lib.hid hN
    rw [← hN] at hLn t17
    have hpl : u.heap.size < X.heap.size := hM.1.g.lt
    generalize u.heap.size = M at *
    clear hX hM Hcs HCs hN
    go_wp2_with fail
    have HBX := Lib.hid (show OnW w X from HB.out)
    clear HB
    go_loopw [8, 22] (fun v8 i wr => ∃ k : Nat, i = .int .i64 k ∧ k ≤ N ∧ Below X.heap.size X wr ∧ wr.ownsRow X.heap.size 2 1 v8 k (nvs ((L.map f).take k))) (fun _ i _ => N - (intOf i).toNat)
    case atStart => exact ⟨0, rfl, Nat.zero_le _, Below.refl _ _, World.ownsRow_nil _ _ _ _⟩
    case round =>
      obtain ⟨k, rfl, hkN, hbw, hown⟩ := hrel
      have HPr := Lib.hid (HP.out.below hbw)
      have Hbw := Lib.hid hbw
      have Hown := Lib.hid hown
      clear hbw hown t17
      by_cases hlt : k < N
      · obtain ⟨x, hx⟩ : ∃ x, L[k]? = some x := ⟨L[k]'(by rw [← HN.out]; exact hlt), List.getElem?_eq_getElem _⟩
        obtain ⟨g, c', hg⟩ := slice_some HPr.out.tu (by have := HN.out; omega)
        simp only [Value.slice.injEq] at hg
        obtain ⟨rfl, -, rfl⟩ := hg
        have hx1 : (L.map f)[k]? = some (f x) := by rw [List.getElem?_map, hx]; rfl
        have HNx := Lib.hid (nvs_take (L.map f) hx1)
        have HRg : Hid (∀ o, o = k * 21 → wr.rangeAt g o (cells21 ggp ggs ggc ggl ggst ggsk ggre ggfe ggag ggan1 x)) := Lib.hid (fun o ho => by rw [ho]; exact HPr.out.rgL hx)
        have HOne := Lib.hid (all_oneCell_toArray (cells21_one (p := ggp) (s := ggs) (c := ggc) (l := ggl) (st := ggst) (sk := ggsk) (re := ggre) (fe := ggfe) (ag := ggag) (n1 := ggan1) x))
        have HTh := Lib.hid (thN_new wr 79)
        have HBf := Lib.hid (List.mem_of_getElem? hx)
        have HQx := Lib.hid (HQ.out x HBf.out)
        obtain ⟨y, hy⟩ : ∃ y, f x = y := ⟨_, rfl⟩
        rw [hy] at HNx
        have HFx : Hid (∀ w0 v, PlK w0 M ggp ggs ggc ggl ggst ggsk ggre ggfe ggag ggan1 b1 e1 b2 e2 ggap sx sy (.slice va ms.length vc) (.slice (some ⟨g, 0, none⟩) L.length tc) ms L h1 d1 h2 d2 q ggrg R v → Calls Try.prog 43 #[.agg (cells21 ggp ggs ggc ggl ggst ggsk ggre ggfe ggag ggan1 x).toArray] v (BelP (.int .i64 y) v)) := Lib.hid (fun w0 v k => by rw [← hy]; exact HF.out _ _ _ _ _ _ _ _ _ _ _ _ _ _ _ _ _ _ _ _ _ x k HBf.out HQx.out.1 HQx.out.2)
        clear hy
        have k0 : (0 : Int) ≤ (k : Int) := by omega
        have kq : (k : Int) < (N : Int) := by omega
        clear hx hx1
        go_upto_region 8 with (first | (refine wpList_load_mid rfl 79 _ rfl g _ rfl _ _ (HRg.out _ (by simp)) Try.underlying79 rfl (by kernel_rfl) ?_) | (refine wpList_store_mid rfl 79 _ _ rfl wr.heap.size 0 (cells21 ggp ggs ggc ggl ggst ggsk ggre ggfe ggag ggan1 x).toArray rfl rfl HTh.out.th (by kernel_rfl) HOne.out ?_))
        generalize hX2 : World.setCells _ _ _ _ = X2
        have hM := b21_rg _ _ _ _ _ _ _ _ _ 79 hX2.symm
        have HRm := Lib.hid hM.1
        have HP2 := Lib.hid (HPr.out.below hM.2)
        have HB2 := Lib.hid (Below.trans Hbw.out (hM.2.mono Hbw.out.size))
        have Hown2 := Lib.hid (own_keepS Hown.out hM.2)
        generalize wr.heap.size = M2 at *
        clear hX2 hM
        go_wp2_with (refine wpList_load_mid rfl 79 _ rfl M2 0 rfl _ _ HRm.out Try.underlying79 rfl (by kernel_rfl) ?_)
        refine (HFx.out _ _ HP2.out).mono ?_
        rintro e w7 ⟨rfl, hb⟩
        have HB7 := Lib.hid (Below.trans HB2.out (hb.mono HB2.out.size))
        have Hown7 := Lib.hid (own_keepS Hown2.out hb)
        have hbase7 := HB7.out.size
        have hk120 : k < 120 := by omega
        clear hb
        go_wp2_with (at_builtin; refine wpList_append_lies _ rfl _ _ 24 rfl X.heap.size 2 i1 (.int .i64 0) 1 8 Try.underlying24 hi1 hy0 hy1 hy2 rfl (by decide) u8 k (nvs ((L.map f).take k)) rfl (own_keepS Hown7.out (al1 _ _)) ⟨w7.heap.size, 0, none⟩ 1 1 (nvs [y]) rfl (by simp [nvs]) (row_news (row_oneL w7 y 2)) (nvs_cell _) (by decide) (by unfold maxLen; omega) (by omega) (by simp; omega) _ rfl ?_; intro g' cap' w9 hown9 hgrow9 hat9 hlt9)
        have HB9 := Lib.hid ((Below.alloc HB7.out HB7.out.size (.cells #[.int .i64 y] 2)).grown hgrow9 (by simp; omega) (fun j hj => (own_lt Hown7.out j hj).1))
        have Hown9 := Lib.hid hown9
        clear hown9 hgrow9 hat9 hlt9
        go_wp2_with fail
        go_roundw
        case rel => exact ⟨k + 1, by go_num, by omega, HB9.out, by rw [HNx.out]; exact Hown9.out⟩
        case measure => simp [intOf]; omega
      · obtain rfl : k = N := by omega
        rw [List.take_of_length_le (by rw [List.length_map, ← HN.out]; exact Nat.le_refl _)] at Hown
        obtain ⟨va8, vc8, rfl⟩ := slice_own Hown.out
        go_wp2_with fail
        go_ret2
        unfold EtP
        rw [if_pos rfl]
        have hz := HBX.out.size
        refine ⟨_, L, q, rs, rfl, ?_, HE.out.1, HE.out.2.1, HE.out.2.2, Below.trans HBX.out (Hbw.out.mono hz)⟩
        rw [← HN.out]
        exact own_lower Hown.out hz
end Go.Proofs.Ytenpnilljjfmkaa

/- Et9 -/
namespace Go.Proofs.Ytenpnilljjfmkaa
open Go.Joins Go.ChangeShapes Go.WideShapes Go.ChangeAt Go.RowKit Go.Deep
set_option linter.unusedVariables false

set_option maxHeartbeats 2000000 in
set_option maxRecDepth 100000 in
theorem mover_any (p s c l : Int) (st sk re fe ag : Bool) (player : Int) (s1 s2 : Option Addr) (sn1 sc1 sn2 sc2 : Nat) (sp sq : Int) (p1 p2 : Option Addr) (pn1 pc1 pn2 pc2 : Nat) (pp : Int) (t1 t2 : Option Addr) (tn1 tc1 tn2 tc2 : Nat) (tp tq : Int) (w : World) : Calls Try.prog 43 #[.agg #[.int .i64 p, .int .i64 s, .bool st, .bool sk, .bool re, .bool fe, .bool ag, .int .i64 c, .int .i64 l, .int .i64 player, .slice s1 sn1 sc1, .slice s2 sn2 sc2, .int .i64 sp, .int .i64 sq, .slice p1 pn1 pc1, .slice p2 pn2 pc2, .int .i64 pp, .slice t1 tn1 tc1, .slice t2 tn2 tc2, .int .i64 tp, .int .i64 tq]] w (BelP (.int .i64 player) w) := by
  go_enter Try.func43, Try.ntmps43
  go_wp2_with fail
  go_ret
  exact ⟨rfl, al1 _ _⟩
theorem bd2 {xs ys : List Int} (h : seedB xs ys = true) (l2 : ys.length = 2) (j : Nat) : 0 ≤ ys.getD j 0 ∧ ys.getD j 0 ≤ 1000000 := by
  match ys, l2 with
  | [y0, y1], _ =>
    obtain ⟨q1, q2, q3⟩ := seedB_parts h
    have q4 := posB_tot q1
    simp only [posB, List.all_cons, List.all_nil, Bool.and_true, Bool.and_eq_true, decide_eq_true_eq] at q2
    have e : tot [y0, y1] = y0 + y1 := by simp [tot]
    rw [e] at q3
    match j with
    | 0 => simp; omega
    | 1 => simp; omega
    | n + 2 => simp
/-- A row and a code. -/
def RcP (ok : Bool) (ns : List Int) (w : World) (e : Ending) (w' : World) : Prop :=
  if ok = true then ∃ v, e = .returned (.tuple #[v, .int .i64 0]) ∧ w'.ownsRow w.heap.size 2 1 v ns.length (nvs ns) ∧ Below w.heap.size w w'
  else e = .returned (.tuple #[.slice none 0 0, .int .i64 1]) ∧ Below w.heap.size w w'
/-- The gains of a game. -/
def gnsV (f : Ps → Int → Option R7) (q : Ps) (ms : List Int) : List Int := match runO f q ms with
  | none => []
  | some rs => rs.map R7.gn
/-- The movers of a game. -/
def mvsV (f : Ps → Int → Option R7) (q : Ps) (ms : List Int) : List Int := match runO f q ms with
  | none => []
  | some rs => ((q :: rs.map R7.ps).take rs.length).map Ps.pl
theorem et_gains {p c l : Int} {st sk re fe ag : Bool} {q0 : Ps} {ms : List Int} {L : List (T21 × Q21)} {q : Ps} {rs : List R7} (h : runO (stp p c l st sk re fe ag) q0 ms = some rs) (h1 : L.map (fun x => x.1.r) = rs) (h2 : L.map (fun x => x.1.q) ++ [q] = q0 :: rs.map R7.ps) :
    L.map (fun x => x.1.r.ys.getD x.1.q.pl.toNat 0 - x.1.q.ys.getD x.1.q.pl.toNat 0) = gnsV (stp p c l st sk re fe ag) q0 ms := by
  unfold gnsV
  rw [h]
  refine List.ext_getElem? (fun i => ?_)
  rw [List.getElem?_map, List.getElem?_map]
  have e1 : rs[i]? = (L[i]?).map (fun x => x.1.r) := by rw [← h1, List.getElem?_map]
  rw [e1]
  cases hx : L[i]? with
  | none => rfl
  | some x =>
    have e2 : (q0 :: rs.map R7.ps)[i]? = some x.1.q := by
      rw [← h2, List.getElem?_append_left (by rw [List.length_map]; exact (List.getElem?_eq_some_iff.1 hx).1), List.getElem?_map, hx]
      rfl
    rw [hx] at e1
    have := run_gn h i x.1.r x.1.q e1 e2
    simp only [Option.map_some, this]
theorem et_movers {f : Ps → Int → Option R7} {q0 : Ps} {ms : List Int} {L : List (T21 × Q21)} {q : Ps} {rs : List R7} (h : runO f q0 ms = some rs) (h1 : L.map (fun x => x.1.r) = rs) (h2 : L.map (fun x => x.1.q) ++ [q] = q0 :: rs.map R7.ps) :
    L.map (fun x => x.1.q.pl) = mvsV f q0 ms := by
  unfold mvsV
  rw [h]
  have e : rs.length = (L.map (fun x => x.1.q)).length := by rw [← h1, List.length_map, List.length_map]
  show _ = ((q0 :: rs.map R7.ps).take rs.length).map Ps.pl
  rw [← h2, e]
  simp
theorem implGainsOf_any (ggp ggs ggc ggl : Int) (ggst ggsk ggre ggfe ggag : Bool) (gga1 gga2 : Option Addr) (ggan1 ggac1 ggan2 ggac2 : Nat) (ggap : Int) (ggm : Option Addr) (ggmn ggmc : Nat) (ggb1 ggb2 : Option Addr) (ggbn1 ggbc1 ggbn2 ggbc2 : Nat) (ggbp ggrg : Int) (sx sy ms nx ny : List Int) (w : World) (h : GamR w gga1 gga2 ggan1 ggan2 ggm ggmn ggb1 ggb2 ggbn1 ggbn2 sx sy ms nx ny) :
    Calls Try.prog 30 #[.agg #[.int .i64 ggp, .int .i64 ggs, .bool ggst, .bool ggsk, .bool ggre, .bool ggfe, .bool ggag, .int .i64 ggc, .int .i64 ggl, .slice gga1 ggan1 ggac1, .slice gga2 ggan2 ggac2, .int .i64 ggap, .slice ggm ggmn ggmc, .slice ggb1 ggbn1 ggbc1, .slice ggb2 ggbn2 ggbc2, .int .i64 ggbp, .int .i64 ggrg]] w (RcP (okG ggp ggs ggc ggl ggst ggsk ggre ggfe ggag ggan1 ggan2 ggap sx sy ms ggbp nx ny ggrg) (gnsV (stp ggp ggc ggl ggst ggsk ggre ggfe ggag) ⟨ggap, sx, sy⟩ ms) w) := by
  have HB := Lib.hid (gmb_new ggp ggs ggc ggl ggst ggsk ggre ggfe ggag gga1 gga2 ggan1 ggac1 ggan2 ggac2 ggap ggm ggmn ggmc ggb1 ggb2 ggbn1 ggbc1 ggbn2 ggbc2 ggbp ggrg w 31)
  have HRg := Lib.hid (GmAt.range HB.out.1)
  have HC := Lib.hid (each_gain (fun x => x.1.r.ys.getD x.1.q.pl.toNat 0 - x.1.q.ys.getD x.1.q.pl.toNat 0) ggp ggs ggc ggl ggst ggsk ggre ggfe ggag gga1 gga2 ggan1 ggac1 ggan2 ggac2 ggap ggm ggmn ggmc ggb1 ggb2 ggbn1 ggbc1 ggbn2 ggbc2 ggbp ggrg sx sy ms nx ny _ (h.below HB.out.2) (fun w0 v pb b1 e1 b2 e2 sp sx sy v1 v2 ms L h1 d1 h2 d2 q rg R x hP hx hq hr => by
    obtain ⟨-, -, -, hpl, hsd⟩ := okP_parts hq.ok
    obtain ⟨-, -, -, -, hsd2⟩ := okP_parts hr.ok
    exact gain_any _ _ _ _ _ _ _ _ _ x.1.q.pl _ _ _ _ _ _ _ _ _ _ _ _ _ _ _ _ _ _ _ _ _ _ _ x.1.r.ys x.1.q.ys v (by omega) (hP.rws _ (hP.it x hx).g2).o.row (hP.rws _ (hP.it x hx).a2).o.row (hP.it x hx).l4 (hP.it x hx).l2 rfl rfl (bd2 hsd2 (hP.it x hx).l4 _) (bd2 hsd (hP.it x hx).l2 _)))
  generalize hok : okG ggp ggs ggc ggl ggst ggsk ggre ggfe ggag ggan1 ggan2 ggap sx sy ms ggbp nx ny ggrg = ok at *
  clear h hok
  go_enter Try.func30, Try.ntmps30
  go_wp2_with (refine wpList_load_mid rfl 31 _ rfl w.heap.size 0 rfl _ _ HRg.out Try.underlying31 rfl (by kernel_rfl) ?_)
  refine HC.out.mono ?_
  intro e u hq
  unfold EtP at hq
  cases ok
  · rw [if_neg (by decide)] at hq
    obtain ⟨rfl, hb⟩ := hq
    have HBe := Lib.hid (OnW.of9 HB.out.2 hb)
    clear hb HB HRg HC
    go_wp2_with fail
    go_ret2
    unfold RcP
    rw [if_neg (by decide)]
    exact ⟨rfl, HBe.out⟩
  · rw [if_pos rfl] at hq
    obtain ⟨v, L, q, rs, rfl, hown, h0, h1, h2, hb⟩ := hq
    have HV := Lib.hid (et_gains h0 h1 h2)
    have HBe := Lib.hid (OnW.of9 HB.out.2 hb)
    have HO := Lib.hid (own_lower hown HB.out.2.size)
    clear hb hown h0 h1 h2 HB HRg HC
    go_wp2_with fail
    go_ret2
    unfold RcP
    rw [if_pos rfl]
    refine ⟨v, rfl, ?_, HBe.out⟩
    rw [← HV.out, List.length_map]
    exact HO.out
theorem implMoversOf_any (ggp ggs ggc ggl : Int) (ggst ggsk ggre ggfe ggag : Bool) (gga1 gga2 : Option Addr) (ggan1 ggac1 ggan2 ggac2 : Nat) (ggap : Int) (ggm : Option Addr) (ggmn ggmc : Nat) (ggb1 ggb2 : Option Addr) (ggbn1 ggbc1 ggbn2 ggbc2 : Nat) (ggbp ggrg : Int) (sx sy ms nx ny : List Int) (w : World) (h : GamR w gga1 gga2 ggan1 ggan2 ggm ggmn ggb1 ggb2 ggbn1 ggbn2 sx sy ms nx ny) :
    Calls Try.prog 23 #[.agg #[.int .i64 ggp, .int .i64 ggs, .bool ggst, .bool ggsk, .bool ggre, .bool ggfe, .bool ggag, .int .i64 ggc, .int .i64 ggl, .slice gga1 ggan1 ggac1, .slice gga2 ggan2 ggac2, .int .i64 ggap, .slice ggm ggmn ggmc, .slice ggb1 ggbn1 ggbc1, .slice ggb2 ggbn2 ggbc2, .int .i64 ggbp, .int .i64 ggrg]] w (RcP (okG ggp ggs ggc ggl ggst ggsk ggre ggfe ggag ggan1 ggan2 ggap sx sy ms ggbp nx ny ggrg) (mvsV (stp ggp ggc ggl ggst ggsk ggre ggfe ggag) ⟨ggap, sx, sy⟩ ms) w) := by
  have HB := Lib.hid (gmb_new ggp ggs ggc ggl ggst ggsk ggre ggfe ggag gga1 gga2 ggan1 ggac1 ggan2 ggac2 ggap ggm ggmn ggmc ggb1 ggb2 ggbn1 ggbc1 ggbn2 ggbc2 ggbp ggrg w 31)
  have HRg := Lib.hid (GmAt.range HB.out.1)
  have HC := Lib.hid (each_mover (fun x => x.1.q.pl) ggp ggs ggc ggl ggst ggsk ggre ggfe ggag gga1 gga2 ggan1 ggac1 ggan2 ggac2 ggap ggm ggmn ggmc ggb1 ggb2 ggbn1 ggbc1 ggbn2 ggbc2 ggbp ggrg sx sy ms nx ny _ (h.below HB.out.2) (fun w0 v pb b1 e1 b2 e2 sp sx sy v1 v2 ms L h1 d1 h2 d2 q rg R x hP hx hq hr => by
    exact mover_any _ _ _ _ _ _ _ _ _ x.1.q.pl _ _ _ _ _ _ _ _ _ _ _ _ _ _ _ _ _ _ _ _ _ _ _ v))
  generalize hok : okG ggp ggs ggc ggl ggst ggsk ggre ggfe ggag ggan1 ggan2 ggap sx sy ms ggbp nx ny ggrg = ok at *
  clear h hok
  go_enter Try.func23, Try.ntmps23
  go_wp2_with (refine wpList_load_mid rfl 31 _ rfl w.heap.size 0 rfl _ _ HRg.out Try.underlying31 rfl (by kernel_rfl) ?_)
  refine HC.out.mono ?_
  intro e u hq
  unfold EtP at hq
  cases ok
  · rw [if_neg (by decide)] at hq
    obtain ⟨rfl, hb⟩ := hq
    have HBe := Lib.hid (OnW.of9 HB.out.2 hb)
    clear hb HB HRg HC
    go_wp2_with fail
    go_ret2
    unfold RcP
    rw [if_neg (by decide)]
    exact ⟨rfl, HBe.out⟩
  · rw [if_pos rfl] at hq
    obtain ⟨v, L, q, rs, rfl, hown, h0, h1, h2, hb⟩ := hq
    have HV := Lib.hid (et_movers h0 h1 h2)
    have HBe := Lib.hid (OnW.of9 HB.out.2 hb)
    have HO := Lib.hid (own_lower hown HB.out.2.size)
    clear hb hown h0 h1 h2 HB HRg HC
    go_wp2_with fail
    go_ret2
    unfold RcP
    rw [if_pos rfl]
    refine ⟨v, rfl, ?_, HBe.out⟩
    rw [← HV.out, List.length_map]
    exact HO.out
end Go.Proofs.Ytenpnilljjfmkaa

/- EtS -/
namespace Go.Proofs.Ytenpnilljjfmkaa
open Go.Joins Go.ChangeShapes Go.WideShapes Go.ChangeAt Go.RowKit Go.Deep
set_option linter.unusedVariables false

set_option maxHeartbeats 2000000 in
set_option maxRecDepth 100000 in
theorem specGainsOf_any (ggp ggs ggc ggl : Int) (ggst ggsk ggre ggfe ggag : Bool) (gga1 gga2 : Option Addr) (ggan1 ggac1 ggan2 ggac2 : Nat) (ggap : Int) (ggm : Option Addr) (ggmn ggmc : Nat) (ggb1 ggb2 : Option Addr) (ggbn1 ggbc1 ggbn2 ggbc2 : Nat) (ggbp ggrg : Int) (sx sy ms nx ny : List Int) (w : World) (h : GamR w gga1 gga2 ggan1 ggan2 ggm ggmn ggb1 ggb2 ggbn1 ggbn2 sx sy ms nx ny) :
    Calls Try.prog 29 #[.agg #[.int .i64 ggp, .int .i64 ggs, .bool ggst, .bool ggsk, .bool ggre, .bool ggfe, .bool ggag, .int .i64 ggc, .int .i64 ggl, .slice gga1 ggan1 ggac1, .slice gga2 ggan2 ggac2, .int .i64 ggap, .slice ggm ggmn ggmc, .slice ggb1 ggbn1 ggbc1, .slice ggb2 ggbn2 ggbc2, .int .i64 ggbp, .int .i64 ggrg]] w (RcP (okG ggp ggs ggc ggl ggst ggsk ggre ggfe ggag ggan1 ggan2 ggap sx sy ms ggbp nx ny ggrg) (gnsV (stp ggp ggc ggl ggst ggsk ggre ggfe ggag) ⟨ggap, sx, sy⟩ ms) w) := by
  have HB := Lib.hid (gmb_new ggp ggs ggc ggl ggst ggsk ggre ggfe ggag gga1 gga2 ggan1 ggac1 ggan2 ggac2 ggap ggm ggmn ggmc ggb1 ggb2 ggbn1 ggbc1 ggbn2 ggbc2 ggbp ggrg w 31)
  have HC := Lib.hid (l08Ok_any ggp ggs ggc ggl ggst ggsk ggre ggfe ggag gga1 gga2 ggan1 ggac1 ggan2 ggac2 ggap ggm ggmn ggmc ggb1 ggb2 ggbn1 ggbc1 ggbn2 ggbc2 ggbp ggrg sx sy ms nx ny w.heap.size _ HB.out.1 (h.below HB.out.2))
  have H := Lib.hid h
  clear h
  cases hok : okG ggp ggs ggc ggl ggst ggsk ggre ggfe ggag ggan1 ggan2 ggap sx sy ms ggbp nx ny ggrg
  · rw [hok] at HC
    clear hok
    go_enter Try.func29, Try.ntmps29
    go_wp2_with fail
    refine HC.out.mono ?_
    rintro e u ⟨rfl, hb⟩
    have HB := Lib.hid (HB.out.below hb)
    clear hb
    go_wp2_with fail
    go_ret2
    unfold RcP
    rw [if_neg (by decide)]
    exact ⟨rfl, HB.out.2⟩
  · rw [hok] at HC
    obtain ⟨hk, h120, -, rs, hro, -⟩ := okG_parts hok
    obtain ⟨-, -, e2, -, -⟩ := okP_parts hk
    subst e2
    have HOk := Lib.hid (show OkQ ggp ggs ggc ggl ggst ggag ggan1 ⟨ggap, sx, sy⟩ from ⟨hk, H.out.s.l1, H.out.s.l2⟩)
    have Hro := Lib.hid hro
    have hlm := H.out.lm
    have hmn : ggmn ≤ 1000000 := by omega
    clear hok hk h120 hro hlm
    go_enter Try.func29, Try.ntmps29
    go_wp2_with fail
    refine HC.out.mono ?_
    rintro e u ⟨rfl, hb⟩
    have HB := Lib.hid (HB.out.below hb)
    clear hb
    obtain ⟨hgb, m12⟩ := (gm_mv HB.out).1
    have HRn := Lib.hid (l08Run_any ggp ggs ggc ggl ggst ggsk ggre ggfe ggag gga1 gga2 ggan1 ggac1 ggac2 ggap sx sy ms w.heap.size ggm ggmn ggmc u HB.out.1.ru HB.out.1.p9 (H.out.s.below HB.out.2) (H.out.m.below HB.out.2) H.out.lm hmn HOk.out)
    go_wp2_with fail
    refine HRn.out.mono ?_
    rintro e u2 ⟨v1, v2, L, gs, rfl, hL, hgn, hll, hle, hR, hb⟩
    unfold RunR at hR
    rw [Hro.out] at hR
    have HG := Lib.hid hR.2
    have Hgn := Lib.hid (own_lower hgn HB.out.2.size)
    have HBe := Lib.hid (HB.out.below hb)
    clear hL hgn hll hle hR hb HRn
    go_wp2_with fail
    go_ret2
    unfold RcP gnsV
    rw [if_pos rfl, Hro.out]
    refine ⟨v2, rfl, ?_, HBe.out.2⟩
    show World.ownsRow _ _ _ _ _ (rs.map R7.gn).length (nvs (rs.map R7.gn))
    rw [← HG.out]
    exact Hgn.out
set_option maxHeartbeats 2000000 in
set_option maxRecDepth 100000 in
theorem specMoversOf_any (ggp ggs ggc ggl : Int) (ggst ggsk ggre ggfe ggag : Bool) (gga1 gga2 : Option Addr) (ggan1 ggac1 ggan2 ggac2 : Nat) (ggap : Int) (ggm : Option Addr) (ggmn ggmc : Nat) (ggb1 ggb2 : Option Addr) (ggbn1 ggbc1 ggbn2 ggbc2 : Nat) (ggbp ggrg : Int) (sx sy ms nx ny : List Int) (w : World) (h : GamR w gga1 gga2 ggan1 ggan2 ggm ggmn ggb1 ggb2 ggbn1 ggbn2 sx sy ms nx ny) :
    Calls Try.prog 22 #[.agg #[.int .i64 ggp, .int .i64 ggs, .bool ggst, .bool ggsk, .bool ggre, .bool ggfe, .bool ggag, .int .i64 ggc, .int .i64 ggl, .slice gga1 ggan1 ggac1, .slice gga2 ggan2 ggac2, .int .i64 ggap, .slice ggm ggmn ggmc, .slice ggb1 ggbn1 ggbc1, .slice ggb2 ggbn2 ggbc2, .int .i64 ggbp, .int .i64 ggrg]] w (RcP (okG ggp ggs ggc ggl ggst ggsk ggre ggfe ggag ggan1 ggan2 ggap sx sy ms ggbp nx ny ggrg) (mvsV (stp ggp ggc ggl ggst ggsk ggre ggfe ggag) ⟨ggap, sx, sy⟩ ms) w) := by
  have HB := Lib.hid (gmb_new ggp ggs ggc ggl ggst ggsk ggre ggfe ggag gga1 gga2 ggan1 ggac1 ggan2 ggac2 ggap ggm ggmn ggmc ggb1 ggb2 ggbn1 ggbc1 ggbn2 ggbc2 ggbp ggrg w 31)
  have HC := Lib.hid (l08Ok_any ggp ggs ggc ggl ggst ggsk ggre ggfe ggag gga1 gga2 ggan1 ggac1 ggan2 ggac2 ggap ggm ggmn ggmc ggb1 ggb2 ggbn1 ggbc1 ggbn2 ggbc2 ggbp ggrg sx sy ms nx ny w.heap.size _ HB.out.1 (h.below HB.out.2))
  have H := Lib.hid h
  obtain ⟨i1, hi1, hy0, hy1, hy2⟩ := info_parts infoN
  clear h
  cases hok : okG ggp ggs ggc ggl ggst ggsk ggre ggfe ggag ggan1 ggan2 ggap sx sy ms ggbp nx ny ggrg
  · rw [hok] at HC
    clear hok
    go_enter Try.func22, Try.ntmps22
    go_wp2_with fail
    refine HC.out.mono ?_
    rintro e u ⟨rfl, hb⟩
    have HB := Lib.hid (HB.out.below hb)
    clear hb
    go_wp2_with fail
    go_ret2
    unfold RcP
    rw [if_neg (by decide)]
    exact ⟨rfl, HB.out.2⟩
  · rw [hok] at HC
    obtain ⟨hk, h120, -, rs, hro, -⟩ := okG_parts hok
    obtain ⟨-, -, e2, -, -⟩ := okP_parts hk
    subst e2
    have HOk := Lib.hid (show OkQ ggp ggs ggc ggl ggst ggag ggan1 ⟨ggap, sx, sy⟩ from ⟨hk, H.out.s.l1, H.out.s.l2⟩)
    have Hro := Lib.hid hro
    have hlm := H.out.lm
    have hmn : ggmn ≤ 1000000 := by omega
    have hmx : ggmn ≤ 120 := by omega
    clear hok hk h120 hro hlm
    go_enter Try.func22, Try.ntmps22
    go_wp2_with fail
    refine HC.out.mono ?_
    rintro e u ⟨rfl, hb⟩
    have HB := Lib.hid (HB.out.below hb)
    clear hb
    obtain ⟨hgb, m12⟩ := (gm_mv HB.out).1
    have HRn := Lib.hid (l08Run_any ggp ggs ggc ggl ggst ggsk ggre ggfe ggag gga1 gga2 ggan1 ggac1 ggac2 ggap sx sy ms w.heap.size ggm ggmn ggmc u HB.out.1.ru HB.out.1.p9 (H.out.s.below HB.out.2) (H.out.m.below HB.out.2) H.out.lm hmn HOk.out)
    go_wp2_with fail
    refine HRn.out.mono ?_
    rintro e u2 ⟨v1, v2, L, gs, rfl, hL, hgn, hll, hle, hR, hb⟩
    unfold RunR at hR
    rw [Hro.out] at hR
    obtain ⟨hR1, hR2⟩ := hR
    have hrl := runO_len Hro.out
    have hgl : gs.length = ggmn := by rw [hR2, List.length_map, hrl]; exact H.out.lm
    obtain ⟨g1, cp1, rfl⟩ := slice_some hL.own (by omega)
    obtain ⟨a2, c2, rfl⟩ := slice_own hgn
    have HL := Lib.hid hL
    have HM1 := Lib.hid (show L.map Prod.fst = (⟨ggap, sx, sy⟩ : Ps) :: rs.map R7.ps from hR1)
    have HLl := Lib.hid (show L.length = ggmn + 1 by omega)
    have HRl := Lib.hid (show rs.length = ggmn by rw [hrl]; exact H.out.lm)
    have HBe := Lib.hid (HB.out.below hb)
    generalize gs.length = n2 at *
    clear hL hgn hll hle hR1 hR2 hb HRn hrl hgl m12
    rw [HLl.out]
    go_upto_region 4 with fail
    have HO0 := Lib.hid (World.ownsRow_made (base := u2.heap.size) (e := 2) (size := 1) u2 #[] 0 (Nat.le_refl _) (by decide) rfl)
    have HX := Lib.hid (al1 u2 (.cells #[] 2))
    go_wp2_with fail
    generalize u2.alloc (.cells #[] 2) = X at *
    go_loopw [6, 7] (fun v8 i wr => ∃ k : Nat, i = .int .i64 k ∧ k ≤ ggmn ∧ Below u2.heap.size u2 wr ∧ wr.ownsRow u2.heap.size 2 1 v8 k (nvs (((L.map Prod.fst).map Ps.pl).take k))) (fun _ i _ => ggmn - (intOf i).toNat)
    case atStart => exact ⟨0, rfl, Nat.zero_le _, HX.out, HO0.out⟩
    case round =>
      obtain ⟨k, rfl, hkN, hbw, hown⟩ := hrel
      have HSr := Lib.hid (HBe.out.below hbw)
      have HLr := Lib.hid (HL.out.below hbw)
      have Hbw := Lib.hid hbw
      have Hown := Lib.hid hown
      have m12 := (gm_mv HSr.out).1.2
      clear hbw hown
      by_cases hlt : k < ggmn
      · obtain ⟨x, hx⟩ : ∃ x, L[k]? = some x := ⟨L[k]'(by rw [HLl.out]; omega), List.getElem?_eq_getElem _⟩
        have t2 : wr.cell? ⟨g1, k * 3 + 2, none⟩ = some (.int .i64 x.1.pl) := HLr.out.cell hx (o := 2) (by omega)
        have hx1 : ((L.map Prod.fst).map Ps.pl)[k]? = some x.1.pl := by rw [List.getElem?_map, List.getElem?_map, hx]; rfl
        have HNx := Lib.hid (nvs_take _ hx1)
        generalize x.1.pl = y at *
        have k0 : (0 : Int) ≤ (k : Int) := by omega
        have kq : (k : Int) < (ggmn : Int) := by omega
        have kq2 : (k : Int) < ((ggmn + 1 : Nat) : Int) := by omega
        clear hx hx1
        have hbase := Hbw.out.size
        go_wp2_with (at_builtin; refine wpList_append_lies _ rfl _ _ 24 rfl u2.heap.size 2 i1 (.int .i64 0) 1 8 Try.underlying24 hi1 hy0 hy1 hy2 rfl (by decide) u6 k (nvs (((L.map Prod.fst).map Ps.pl).take k)) rfl (own_keepS Hown.out (al1 _ _)) ⟨wr.heap.size, 0, none⟩ 1 1 (nvs [y]) rfl (by simp [nvs]) (row_news (row_oneL wr y 2)) (nvs_cell _) (by decide) (by unfold maxLen; omega) (by omega) (by simp; omega) _ rfl ?_; intro g' cap' w9 hown9 hgrow9 hat9 hlt9)
        have HB9 := Lib.hid ((Below.alloc Hbw.out Hbw.out.size (.cells #[.int .i64 y] 2)).grown hgrow9 (by simp; omega) (fun j hj => (own_lt Hown.out j hj).1))
        have Hown9 := Lib.hid hown9
        clear hown9 hgrow9 hat9 hlt9 t2
        go_wp2_with fail
        go_roundw
        case rel => exact ⟨k + 1, by go_num, by omega, HB9.out, by rw [HNx.out]; exact Hown9.out⟩
        case measure => simp [intOf]; omega
      · obtain rfl : k = ggmn := by omega
        obtain ⟨va8, vc8, rfl⟩ := slice_own Hown.out
        go_wp2_with fail
        go_ret2
        unfold RcP mvsV
        rw [if_pos rfl, Hro.out]
        refine ⟨_, rfl, ?_, HSr.out.2⟩
        have hns : ((((⟨ggap, sx, sy⟩ : Ps) :: rs.map R7.ps).take rs.length).map Ps.pl) = ((L.map Prod.fst).map Ps.pl).take k := by rw [← HM1.out, HRl.out, List.map_take]
        have hnl : (((L.map Prod.fst).map Ps.pl).take k).length = k := by rw [List.length_take, List.length_map, List.length_map, HLl.out]; omega
        show World.ownsRow _ _ _ _ _ (((((⟨ggap, sx, sy⟩ : Ps) :: rs.map R7.ps).take rs.length).map Ps.pl)).length (nvs ((((⟨ggap, sx, sy⟩ : Ps) :: rs.map R7.ps).take rs.length).map Ps.pl))
        rw [hns, hnl]
        exact own_lower Hown.out HBe.out.2.size
end Go.Proofs.Ytenpnilljjfmkaa

/- Lg8 -/
namespace Go.Proofs.Ytenpnilljjfmkaa
open Go.Joins Go.ChangeShapes Go.WideShapes Go.ChangeAt Go.RowKit Go.Deep
set_option linter.unusedVariables false

theorem RIn.but5 {u v : World} {lo hi b k1 k2 k3 k4 k5 : Nat} {a : Option Addr} {L : List Int} (h : RIn u lo hi a b L) (k : But5 k1 k2 k3 k4 k5 u v) (c1 : hi ≤ k1 ∨ k1 < lo) (c2 : hi ≤ k2 ∨ k2 < lo) (c3 : hi ≤ k3 ∨ k3 < lo) (c4 : hi ≤ k4 ∨ k4 < lo) (c5 : hi ≤ k5 ∨ k5 < lo) : RIn v lo hi a b L := by
  obtain ⟨ho, hlt, hs⟩ := h
  refine ⟨?_, hlt, Nat.le_trans hs k.size⟩
  by_cases hne : L = []
  · subst hne
    exact ⟨rowN_nil _ _, ho.at_b, ho.new, fun h => absurd rfl h⟩
  · have h1 := hlt hne
    have h2 := ho.new
    obtain ⟨h3, h4⟩ := ho.free hne
    have n1 : b ≠ k1 := by omega
    have n2 : b ≠ k2 := by omega
    have n3 : b ≠ k3 := by omega
    have n4 : b ≠ k4 := by omega
    have n5 : b ≠ k5 := by omega
    refine ⟨?_, ho.at_b, ho.new, fun _ => ⟨Nat.lt_of_lt_of_le h3 k.size, fun o => (World.frozen?_of_block (w := u) (k.block b h3 n1 n2 n3 n4 n5)).trans (h4 o)⟩⟩
    obtain ⟨hl, h | ⟨g, o, ha, hg, hx⟩⟩ := ho.row
    · exact ⟨hl, .inl h⟩
    · refine ⟨hl, .inr ⟨g, o, ha, Nat.lt_of_lt_of_le hg k.size, fun i s hs => ?_⟩⟩
      obtain rfl := ho.at_b g o ha
      rw [k.cell hg n1 n2 n3 n4 n5]
      exact hx i s hs
theorem GamD.below {u v : World} {k1 k2 k3 k4 k5 : Nat} (h : GamD u k1 k2 k3 k4 k5) (k : Below u.heap.size u v) : GamD v k1 k2 k3 k4 k5 :=
  ⟨Nat.lt_of_lt_of_le h.l1 k.size, Nat.lt_of_lt_of_le h.l2 k.size, Nat.lt_of_lt_of_le h.l3 k.size, Nat.lt_of_lt_of_le h.l4 k.size, Nat.lt_of_lt_of_le h.l5 k.size, h.n13, h.n23, h.n14, h.n24, h.n15, h.n25, h.n34, h.n35⟩
theorem GmB.but5 {w u v : World} {k1 k2 k3 k4 k5 : Nat} {ggp ggs ggc ggl : Int} {ggst ggsk ggre ggfe ggag : Bool} {gga1 gga2 : Option Addr} {ggan1 ggac1 ggan2 ggac2 : Nat} {ggap : Int} {ggm : Option Addr} {ggmn ggmc : Nat} {ggb1 ggb2 : Option Addr} {ggbn1 ggbc1 ggbn2 ggbc2 : Nat} {ggbp ggrg : Int} (h : GmB w w.heap.size ggp ggs ggc ggl ggst ggsk ggre ggfe ggag gga1 gga2 ggan1 ggac1 ggan2 ggac2 ggap ggm ggmn ggmc ggb1 ggb2 ggbn1 ggbc1 ggbn2 ggbc2 ggbp ggrg u) (k : But5 k1 k2 k3 k4 k5 u v) (c1 : w.heap.size < k1) (c2 : w.heap.size < k2) (c3 : w.heap.size < k3) (c4 : w.heap.size < k4) (c5 : w.heap.size < k5) : GmB w w.heap.size ggp ggs ggc ggl ggst ggsk ggre ggfe ggag gga1 gga2 ggan1 ggac1 ggan2 ggac2 ggap ggm ggmn ggmc ggb1 ggb2 ggbn1 ggbc1 ggbn2 ggbc2 ggbp ggrg v :=
  ⟨h.1.but5 k (by omega) (by omega) (by omega) (by omega) (by omega), Below.trans h.2 (k.below h.2.size (by omega) (by omega) (by omega) (by omega) (by omega))⟩
/-- The numbers of an answer. -/
def RowX (ok : Bool) (ns : List Int) : List Int := if ok = true then ns else []
theorem RcP.ex {ok : Bool} {ns : List Int} {w w' : World} {e : Ending} (h : RcP ok ns w e w') : ∃ v, e = .returned (.tuple #[v, .int .i64 (if ok = true then 0 else 1)]) ∧ w'.ownsRow w.heap.size 2 1 v (RowX ok ns).length (nvs (RowX ok ns)) ∧ Below w.heap.size w w' := by
  unfold RcP at h
  cases ok
  · rw [if_neg (by decide)] at h
    exact ⟨_, h.1, World.ownsRow_nil _ _ _ _, h.2⟩
  · rw [if_pos rfl] at h
    exact h
theorem gns_le (p s c l : Int) (st sk re fe ag : Bool) {n1 n2 : Nat} {pp : Int} {xs ys ms : List Int} {bp : Int} {nx ny : List Int} {rg : Int} : (RowX (okG p s c l st sk re fe ag n1 n2 pp xs ys ms bp nx ny rg) (gnsV (stp p c l st sk re fe ag) ⟨pp, xs, ys⟩ ms)).length ≤ 120 := by
  unfold RowX
  cases h : okG p s c l st sk re fe ag n1 n2 pp xs ys ms bp nx ny rg
  · simp
  · obtain ⟨-, h1, -, rs, h2, -⟩ := okG_parts h
    rw [if_pos rfl]
    unfold gnsV
    rw [h2]
    have := runO_len h2
    simp only [List.length_map]
    omega
theorem mvs_le (p s c l : Int) (st sk re fe ag : Bool) {n1 n2 : Nat} {pp : Int} {xs ys ms : List Int} {bp : Int} {nx ny : List Int} {rg : Int} : (RowX (okG p s c l st sk re fe ag n1 n2 pp xs ys ms bp nx ny rg) (mvsV (stp p c l st sk re fe ag) ⟨pp, xs, ys⟩ ms)).length ≤ 120 := by
  unfold RowX
  cases h : okG p s c l st sk re fe ag n1 n2 pp xs ys ms bp nx ny rg
  · simp
  · obtain ⟨-, h1, -, rs, h2, -⟩ := okG_parts h
    rw [if_pos rfl]
    unfold mvsV
    rw [h2]
    have := runO_len h2
    simp only [List.length_map, List.length_take, List.length_cons]
    omega
end Go.Proofs.Ytenpnilljjfmkaa

/- Law8GA -/
namespace Go.Proofs.Ytenpnilljjfmkaa
open Go.Joins Go.ChangeShapes Go.WideShapes Go.ChangeAt Go.RowKit Go.Deep
set_option linter.unusedVariables false

set_option maxHeartbeats 8000000 in
set_option maxRecDepth 100000 in
theorem walk0_FnExactGainsOf (ggp ggs ggc ggl : Int) (ggst ggsk ggre ggfe ggag : Bool) (gga1 gga2 : Option Addr) (ggan1 ggac1 ggan2 ggac2 : Nat) (ggap : Int) (ggm : Option Addr) (ggmn ggmc : Nat) (ggb1 ggb2 : Option Addr) (ggbn1 ggbc1 ggbn2 ggbc2 : Nat) (ggbp ggrg : Int) (sx sy ms nx ny : List Int) (w : World) (h1 : GamW w gga1 gga2 ggan1 ggan2 ggm ggmn ggb1 ggb2 ggbn1 ggbn2 sx sy ms nx ny) :
    Calls Try.prog 7 #[.agg #[.int .i64 ggp, .int .i64 ggs, .bool ggst, .bool ggsk, .bool ggre, .bool ggfe, .bool ggag, .int .i64 ggc, .int .i64 ggl, .slice gga1 ggan1 ggac1, .slice gga2 ggan2 ggac2, .int .i64 ggap, .slice ggm ggmn ggmc, .slice ggb1 ggbn1 ggbc1, .slice ggb2 ggbn2 ggbc2, .int .i64 ggbp, .int .i64 ggrg]] w fun e w' => e = .returned (.bool true) ∧ Below w.heap.size w w' := by
  have ha1 := Lib.hid (And.intro h1.s.m1 (And.intro h1.s.m2 (And.intro h1.mn (And.intro h1.n.m1 h1.n.m2))))
  have HW1 := Lib.hid h1
  have HS := Lib.hid (gmb_new ggp ggs ggc ggl ggst ggsk ggre ggfe ggag gga1 gga2 ggan1 ggac1 ggan2 ggac2 ggap ggm ggmn ggmc ggb1 ggb2 ggbn1 ggbc1 ggbn2 ggbc2 ggbp ggrg w 42)
  clear h1
  obtain ⟨nA, hnA⟩ : ∃ n, gmN ggan1 ggan2 ggmn ggbn1 ggbn2 = n := ⟨_, rfl⟩
  have pA : 0 ≤ nA := by rw [← hnA]; unfold gmN; omega
  by_cases hz1 : nA ≤ 1048576
  rotate_left
  · have E1 : Hid (szW 1048576 (gmN ggan1 ggan2 ggmn ggbn1 ggbn2) = -1) := Lib.hid (by rw [hnA]; exact szW_no hz1)
    clear hnA pA hz1
    go_enter Try.func7, Try.ntmps7
    go_upto_region 2 with fail
    go_step
    refine wpList_load_mid rfl 42 (.tmp 1) rfl w.heap.size 0 rfl _ _ (GmAt.range HS.out.1) Try.underlying42 rfl (by kernel_rfl) ?_
    simp only [Act.put, List.setIfInBounds_toArray, List.set_cons_zero, List.set_cons_succ]
    go_wp2_with fail
    refine (szG_any ggp ggs ggc ggl ggst ggsk ggre ggfe ggag gga1 gga2 ggan1 ggac1 ggan2 ggac2 ggap ggm ggmn ggmc ggb1 ggb2 ggbn1 ggbc1 ggbn2 ggbc2 ggbp ggrg 1048576 (by omega) (by omega) ha1.out.1 ha1.out.2.1 ha1.out.2.2.1 ha1.out.2.2.2.1 ha1.out.2.2.2.2 _).mono ?_
    rintro e v1 ⟨rfl, hb⟩
    rw [E1.out]
    have HS := Lib.hid (HS.out.below hb)
    clear hb
    go_wp2_with fail
    go_ret
    exact ⟨rfl, HS.out.2⟩
  have q0 : 0 ≤ 1048576 - nA := by omega
  have E1 : Hid (szW 1048576 (gmN ggan1 ggan2 ggmn ggbn1 ggbn2) = 1048576 - nA) := Lib.hid (by rw [hnA]; exact szW_yes hz1)
  have hsum : ggan1 + ggan2 + ggmn + ggbn1 + ggbn2 ≤ 1048576 := by unfold gmN at hnA; omega
  have H1 := Lib.hid (HW1.out.toR (by unfold gmN at hnA; omega))
  clear HW1 hnA hz1
  obtain ⟨NS, hNS⟩ : ∃ NS, NS = RowX (okG ggp ggs ggc ggl ggst ggsk ggre ggfe ggag ggan1 ggan2 ggap sx sy ms ggbp nx ny ggrg) (gnsV (stp ggp ggc ggl ggst ggsk ggre ggfe ggag) ⟨ggap, sx, sy⟩ ms) := ⟨_, rfl⟩
  have hle : NS.length ≤ 120 := by rw [hNS]; exact gns_le _ _ _ _ _ _ _ _ _
  obtain ⟨cv, hcv⟩ : ∃ cv : Int, cv = (if okG ggp ggs ggc ggl ggst ggsk ggre ggfe ggag ggan1 ggan2 ggap sx sy ms ggbp nx ny ggrg = true then 0 else 1) := ⟨_, rfl⟩
  have HSp : Hid (∀ (a1 a2 mm b1 b2 : Option Addr) (u : World), GamR u a1 a2 ggan1 ggan2 mm ggmn b1 b2 ggbn1 ggbn2 sx sy ms nx ny → Calls Try.prog 29 #[.agg #[.int .i64 ggp, .int .i64 ggs, .bool ggst, .bool ggsk, .bool ggre, .bool ggfe, .bool ggag, .int .i64 ggc, .int .i64 ggl, .slice a1 ggan1 ggan1, .slice a2 ggan2 ggan2, .int .i64 ggap, .slice mm ggmn ggmn, .slice b1 ggbn1 ggbn1, .slice b2 ggbn2 ggbn2, .int .i64 ggbp, .int .i64 ggrg]] u fun e w' => ∃ v, e = .returned (.tuple #[v, .int .i64 cv]) ∧ w'.ownsRow u.heap.size 2 1 v NS.length (nvs NS) ∧ Below u.heap.size u w') := Lib.hid (fun a1 a2 mm b1 b2 u hu => (specGainsOf_any ggp ggs ggc ggl ggst ggsk ggre ggfe ggag a1 a2 ggan1 ggan1 ggan2 ggan2 ggap mm ggmn ggmn b1 b2 ggbn1 ggbn1 ggbn2 ggbn2 ggbp ggrg sx sy ms nx ny u hu).mono (fun e w' hq => by rw [hNS, hcv]; exact hq.ex))
  have HIm : Hid (∀ (a1 a2 mm b1 b2 : Option Addr) (u : World), GamR u a1 a2 ggan1 ggan2 mm ggmn b1 b2 ggbn1 ggbn2 sx sy ms nx ny → Calls Try.prog 30 #[.agg #[.int .i64 ggp, .int .i64 ggs, .bool ggst, .bool ggsk, .bool ggre, .bool ggfe, .bool ggag, .int .i64 ggc, .int .i64 ggl, .slice a1 ggan1 ggan1, .slice a2 ggan2 ggan2, .int .i64 ggap, .slice mm ggmn ggmn, .slice b1 ggbn1 ggbn1, .slice b2 ggbn2 ggbn2, .int .i64 ggbp, .int .i64 ggrg]] u fun e w' => ∃ v, e = .returned (.tuple #[v, .int .i64 cv]) ∧ w'.ownsRow u.heap.size 2 1 v NS.length (nvs NS) ∧ Below u.heap.size u w') := Lib.hid (fun a1 a2 mm b1 b2 u hu => (implGainsOf_any ggp ggs ggc ggl ggst ggsk ggre ggfe ggag a1 a2 ggan1 ggan1 ggan2 ggan2 ggap mm ggmn ggmn b1 b2 ggbn1 ggbn1 ggbn2 ggbn2 ggbp ggrg sx sy ms nx ny u hu).mono (fun e w' hq => by rw [hNS, hcv]; exact hq.ex))
  obtain ⟨n, hn⟩ : ∃ n, NS.length = n := ⟨_, rfl⟩
  have Hn := Lib.hid hn
  rw [hn] at hle HSp HIm
  clear hNS hcv hn
  go_enter Try.func7, Try.ntmps7
  go_upto_region 2 with fail
  go_step
  refine wpList_load_mid rfl 42 (.tmp 1) rfl w.heap.size 0 rfl _ _ (GmAt.range HS.out.1) Try.underlying42 rfl (by kernel_rfl) ?_
  simp only [Act.put, List.setIfInBounds_toArray, List.set_cons_zero, List.set_cons_succ]
  go_wp2_with fail
  refine (szG_any ggp ggs ggc ggl ggst ggsk ggre ggfe ggag gga1 gga2 ggan1 ggac1 ggan2 ggac2 ggap ggm ggmn ggmc ggb1 ggb2 ggbn1 ggbc1 ggbn2 ggbc2 ggbp ggrg 1048576 (by omega) (by omega) ha1.out.1 ha1.out.2.1 ha1.out.2.2.1 ha1.out.2.2.2.1 ha1.out.2.2.2.2 _).mono ?_
  rintro e v1 ⟨rfl, hb⟩
  rw [E1.out]
  have HS := Lib.hid (HS.out.below hb)
  clear hb
  go_upto_region 5 with fail
  go_step
  refine wpList_load_mid rfl 42 (.tmp 1) rfl w.heap.size 0 rfl _ _ (GmAt.range HS.out.1) Try.underlying42 rfl (by kernel_rfl) ?_
  simp only [Act.put, List.setIfInBounds_toArray, List.set_cons_zero, List.set_cons_succ]
  go_wp2_with fail
  refine (toG_any ggp ggs ggc ggl ggst ggsk ggre ggfe ggag gga1 gga2 ggan1 ggac1 ggan2 ggac2 ggap ggm ggmn ggmc ggb1 ggb2 ggbn1 ggbc1 ggbn2 ggbc2 ggbp ggrg sx sy ms nx ny _ (H1.out.below HS.out.2)).mono ?_
  rintro e w5 ⟨g1, g2, g3, g4, g5, rfl, og, -, hb⟩
  have HS := Lib.hid (HS.out.below hb)
  have OG := Lib.hid og.r
  clear hb og
  go_wp2_with fail
  refine (HSp.out (some ⟨g1, 0, none⟩) (some ⟨g2, 0, none⟩) (some ⟨g3, 0, none⟩) (some ⟨g4, 0, none⟩) (some ⟨g5, 0, none⟩) _ OG.out).mono ?_
  rintro e w6 ⟨v0, rfl, hown, hb⟩
  obtain ⟨a0, c0, b0, rfl, hr0⟩ := rin_own (own_lower (C := w.heap.size + 1) hown HS.out.1.1) Hn.out (by omega)
  have R0 := Lib.hid hr0
  have HS := Lib.hid (HS.out.below hb)
  have hsz6 : w.heap.size < w6.heap.size := HS.out.1.1
  clear hb OG hown hr0
  go_upto_region 6 with fail
  obtain ⟨H0, hH0⟩ : ∃ H0, H0 = w6.heap.size := ⟨_, rfl⟩
  rw [← hH0] at R0 hsz6
  go_cut [6] (fun sx' wx => ∃ A g1 g2 g3 g4 g5 : Nat, sx' = .pointer (some ⟨A, 0, none⟩) ∧ H0 ≤ A ∧ GmB w w.heap.size ggp ggs ggc ggl ggst ggsk ggre ggfe ggag gga1 gga2 ggan1 ggac1 ggan2 ggac2 ggap ggm ggmn ggmc ggb1 ggb2 ggbn1 ggbc1 ggbn2 ggbc2 ggbp ggrg wx ∧ RIn wx (w.heap.size + 1) H0 a0 b0 NS ∧ GmAt wx A ggp ggs ggc ggl ggst ggsk ggre ggfe ggag (some ⟨g1, 0, none⟩) (some ⟨g2, 0, none⟩) ggan1 ggan1 ggan2 ggan2 ggap (some ⟨g3, 0, none⟩) ggmn ggmn (some ⟨g4, 0, none⟩) (some ⟨g5, 0, none⟩) ggbn1 ggbn1 ggbn2 ggbn2 ggbp ggrg ∧ GamO wx H0 (some ⟨g1, 0, none⟩) (some ⟨g2, 0, none⟩) g1 g2 ggan1 ggan2 (some ⟨g3, 0, none⟩) g3 ggmn (some ⟨g4, 0, none⟩) (some ⟨g5, 0, none⟩) g4 g5 ggbn1 ggbn2 sx sy ms nx ny ∧ GamD wx g1 g2 g3 g4 g5)
  case first =>
    go_step
    refine wpList_load_mid rfl 42 (.tmp 1) rfl w.heap.size 0 rfl _ _ (GmAt.range HS.out.1) Try.underlying42 rfl (by kernel_rfl) ?_
    simp only [Act.put, List.setIfInBounds_toArray, List.set_cons_zero, List.set_cons_succ]
    go_wp2_with fail
    refine (toG2_any ggp ggs ggc ggl ggst ggsk ggre ggfe ggag gga1 gga2 ggan1 ggac1 ggan2 ggac2 ggap ggm ggmn ggmc ggb1 ggb2 ggbn1 ggbc1 ggbn2 ggbc2 ggbp ggrg sx sy ms nx ny _ (H1.out.below HS.out.2)).mono ?_
    rintro e w5 ⟨g1, g2, g3, g4, g5, rfl, og, -, gd, hb⟩
    have HS := Lib.hid (HS.out.below hb)
    have R0 := Lib.hid (R0.out.below hb)
    have hs5 := hb.size
    rw [← hH0] at og hs5
    clear hb
    go_wp2_with (refine wpList_store_mid rfl 31 _ _ rfl w5.heap.size 0 (List.toArray [.int .i64 ggp, .int .i64 ggs, .bool ggst, .bool ggsk, .bool ggre, .bool ggfe, .bool ggag, .int .i64 ggc, .int .i64 ggl, .slice (some ⟨g1, 0, none⟩) ggan1 ggan1, .slice (some ⟨g2, 0, none⟩) ggan2 ggan2, .int .i64 ggap, .slice (some ⟨g3, 0, none⟩) ggmn ggmn, .slice (some ⟨g4, 0, none⟩) ggbn1 ggbn1, .slice (some ⟨g5, 0, none⟩) ggbn2 ggbn2, .int .i64 ggbp, .int .i64 ggrg]) rfl rfl (there17 w5 31) (by kernel_rfl) (gm_one _ _ _ _ _ _ _ _ _ _ _ _ _ _ _ _ _ _ _ _ _ _ _ _ _ _ _) ?_)
    go_meet
    have hst := below_stored w5 31 [.int .i64 ggp, .int .i64 ggs, .bool ggst, .bool ggsk, .bool ggre, .bool ggfe, .bool ggag, .int .i64 ggc, .int .i64 ggl, .slice (some ⟨g1, 0, none⟩) ggan1 ggan1, .slice (some ⟨g2, 0, none⟩) ggan2 ggan2, .int .i64 ggap, .slice (some ⟨g3, 0, none⟩) ggmn ggmn, .slice (some ⟨g4, 0, none⟩) ggbn1 ggbn1, .slice (some ⟨g5, 0, none⟩) ggbn2 ggbn2, .int .i64 ggbp, .int .i64 ggrg]
    exact ⟨_, g1, g2, g3, g4, g5, rfl, hs5, HS.out.below hst, R0.out.below hst, gm_of_rg (by rw [size_scg]; simp) (World.rangeAt_setCells_same _ _ 0 _ (there17 w5 31)), og.below hst, ⟨Nat.lt_of_lt_of_le gd.l1 hst.size, Nat.lt_of_lt_of_le gd.l2 hst.size, Nat.lt_of_lt_of_le gd.l3 hst.size, Nat.lt_of_lt_of_le gd.l4 hst.size, Nat.lt_of_lt_of_le gd.l5 hst.size, gd.n13, gd.n23, gd.n14, gd.n24, gd.n15, gd.n25, gd.n34, gd.n35⟩⟩
  case rest =>
  obtain ⟨A1, g1, g2, g3, g4, g5, rfl, hA1, hs, hr0, hga, hog, hgd⟩ := hcut
  have HS := Lib.hid hs
  have R0 := Lib.hid hr0
  have GA := Lib.hid hga
  have OG := Lib.hid hog
  have GD := Lib.hid hgd
  have GR := Lib.hid hog.r
  have hA1s := hga.1
  have hg1 := hgd.l1
  have hg2 := hgd.l2
  have hg3 := hgd.l3
  have hg4 := hgd.l4
  have hg5 := hgd.l5
  have hh1 := hog.s.o1.new
  have hh2 := hog.s.o2.new
  have hh3 := hog.m.new
  have hh4 := hog.n.o1.new
  have hh5 := hog.n.o2.new
  clear hs hr0 hga hog hgd hH0
  go_upto_region 7 with fail
  go_step
  refine wpList_load_mid rfl 31 (.tmp 6) rfl A1 0 rfl _ _ (GmAt.range GA.out) Try.underlying31 rfl (by kernel_rfl) ?_
  simp only [Act.put, List.setIfInBounds_toArray, List.set_cons_zero, List.set_cons_succ]
  go_wp2_with fail
  refine (HIm.out (some ⟨g1, 0, none⟩) (some ⟨g2, 0, none⟩) (some ⟨g3, 0, none⟩) (some ⟨g4, 0, none⟩) (some ⟨g5, 0, none⟩) _ GR.out).mono ?_
  rintro e w7 ⟨v1, rfl, hown, hb⟩
  obtain ⟨a1, c1, b1, rfl, hr1⟩ := rin_own hown Hn.out (by omega)
  have R1 := Lib.hid hr1
  have HS := Lib.hid (HS.out.below hb)
  have R0 := Lib.hid (R0.out.below hb)
  have GA := Lib.hid (GA.out.below hb)
  have OG := Lib.hid (OG.out.below hb)
  have GD := Lib.hid (GD.out.below hb)
  have GR := Lib.hid (GR.out.below hb)
  clear hb hown hr1
  go_wp2_with fail
  refine (eqN_same a1 a0 c1 c0 n NS _ Hn.out R1.out.1.row R0.out.1.row).mono ?_
  rintro e w8 ⟨rfl, hb⟩
  have HS := Lib.hid (HS.out.below hb)
  have R0 := Lib.hid (R0.out.below hb)
  have R1 := Lib.hid (R1.out.below hb)
  have GA := Lib.hid (GA.out.below hb)
  have OG := Lib.hid (OG.out.below hb)
  have GD := Lib.hid (GD.out.below hb)
  have GR := Lib.hid (GR.out.below hb)
  clear hb
  go_upto_region 10 with fail
  refine wp_region_held_drew (S := fun u => u.rangeAt A1 0 [.int .i64 ggp, .int .i64 ggs, .bool ggst, .bool ggsk, .bool ggre, .bool ggfe, .bool ggag, .int .i64 ggc, .int .i64 ggl, .slice (some ⟨g1, 0, none⟩) ggan1 ggan1, .slice (some ⟨g2, 0, none⟩) ggan2 ggan2, .int .i64 ggap, .slice (some ⟨g3, 0, none⟩) ggmn ggmn, .slice (some ⟨g4, 0, none⟩) ggbn1 ggbn1, .slice (some ⟨g5, 0, none⟩) ggbn2 ggbn2, .int .i64 ggbp, .int .i64 ggrg] ∧ u.rangeAt w.heap.size 0 [.int .i64 ggp, .int .i64 ggs, .bool ggst, .bool ggsk, .bool ggre, .bool ggfe, .bool ggag, .int .i64 ggc, .int .i64 ggl, .slice gga1 ggan1 ggac1, .slice gga2 ggan2 ggac2, .int .i64 ggap, .slice ggm ggmn ggmc, .slice ggb1 ggbn1 ggbc1, .slice ggb2 ggbn2 ggbc2, .int .i64 ggbp, .int .i64 ggrg]) (by kernel_rfl) ⟨GmAt.range GA.out, GmAt.range HS.out.1⟩ (fun hHeld => ?_)
  have HS := Lib.hid (HS.out.below (below_dn (Below.refl _ _) 1))
  have R0 := Lib.hid (R0.out.below (below_dn (Below.refl _ _) 1))
  have R1 := Lib.hid (R1.out.below (below_dn (Below.refl _ _) 1))
  have GA := Lib.hid (GA.out.below (below_dn (Below.refl _ _) 1))
  have OG := Lib.hid (OG.out.below (below_dn (Below.refl _ _) 1))
  have GD := Lib.hid (GD.out.below (below_dn (Below.refl _ _) 1))
  have GR := Lib.hid (GR.out.below (below_dn (Below.refl _ _) 1))
  refine wpAnyH_take (i := 0) rfl (by kernel_rfl) (by kernel_rfl) (by kernel_rfl) (fun _ _ _ h => h) (yieldsIf_load_mid (by rfl) 31 _ rfl A1 0 rfl [.int .i64 ggp, .int .i64 ggs, .bool ggst, .bool ggsk, .bool ggre, .bool ggfe, .bool ggag, .int .i64 ggc, .int .i64 ggl, .slice (some ⟨g1, 0, none⟩) ggan1 ggan1, .slice (some ⟨g2, 0, none⟩) ggan2 ggan2, .int .i64 ggap, .slice (some ⟨g3, 0, none⟩) ggmn ggmn, .slice (some ⟨g4, 0, none⟩) ggbn1 ggbn1, .slice (some ⟨g5, 0, none⟩) ggbn2 ggbn2, .int .i64 ggbp, .int .i64 ggrg] _ (fun u hu => hu.1) Try.underlying31 rfl (by kernel_rfl)) hHeld ?_
  simp only [Act.put, List.setIfInBounds_toArray]
  refine wpAnyH_take (i := 1) rfl (by kernel_rfl) (by kernel_rfl) (by kernel_rfl) (fun _ _ _ h => h) (yieldsIf_load_mid (by rfl) 42 _ rfl w.heap.size 0 rfl [.int .i64 ggp, .int .i64 ggs, .bool ggst, .bool ggsk, .bool ggre, .bool ggfe, .bool ggag, .int .i64 ggc, .int .i64 ggl, .slice gga1 ggan1 ggac1, .slice gga2 ggan2 ggac2, .int .i64 ggap, .slice ggm ggmn ggmc, .slice ggb1 ggbn1 ggbc1, .slice ggb2 ggbn2 ggbc2, .int .i64 ggbp, .int .i64 ggrg] _ (fun u hu => hu.2) Try.underlying42 rfl (by kernel_rfl)) hHeld ?_
  simp only [Act.put]
  refine wpAnyH_ready (rs := [2]) (by kernel_rfl) (by simp) ?_
  refine AllReadyH.cons rfl (fun K hK => ?_) AllReadyH.nil
  rw [if_pos (by rfl)]
  go_simp
  go_at_call 20
  refine (toG_any ggp ggs ggc ggl ggst ggsk ggre ggfe ggag gga1 gga2 ggan1 ggac1 ggan2 ggac2 ggap ggm ggmn ggmc ggb1 ggb2 ggbn1 ggbc1 ggbn2 ggbc2 ggbp ggrg sx sy ms nx ny _ (H1.out.below HS.out.2)).mono ?_
  rintro e u5 ⟨j1, j2, j3, j4, j5, rfl, og, -, hb⟩
  have HS := Lib.hid (HS.out.below hb)
  have R0 := Lib.hid (R0.out.below hb)
  have R1 := Lib.hid (R1.out.below hb)
  have GA := Lib.hid (GA.out.below hb)
  have OG := Lib.hid (OG.out.below hb)
  have GD := Lib.hid (GD.out.below hb)
  have GR := Lib.hid (GR.out.below hb)
  have OJ := Lib.hid og.r
  clear hb og
  (try dsimp only)
  refine hK.out _ _ ⟨GmAt.range GA.out, GmAt.range HS.out.1⟩ (fun hHeld => ?_)
  clear hK K
  (try simp only [Act.put, List.setIfInBounds_toArray, List.set_cons_zero, List.set_cons_succ])
  refine wpAnyH_ready (rs := [3]) (by kernel_rfl) (by simp) ?_
  refine AllReadyH.cons rfl (fun K hK => ?_) AllReadyH.nil
  rw [if_pos (by rfl)]
  go_simp
  go_at_call 13
  refine (eqG_same ggp ggs ggc ggl ggst ggsk ggre ggfe ggag (some ⟨g1, 0, none⟩) (some ⟨g2, 0, none⟩) ggan1 ggan1 ggan2 ggan2 ggap (some ⟨g3, 0, none⟩) ggmn ggmn (some ⟨g4, 0, none⟩) (some ⟨g5, 0, none⟩) ggbn1 ggbn1 ggbn2 ggbn2 ggbp ggrg (some ⟨j1, 0, none⟩) (some ⟨j2, 0, none⟩) ggan1 ggan2 (some ⟨j3, 0, none⟩) ggmn (some ⟨j4, 0, none⟩) (some ⟨j5, 0, none⟩) ggbn1 ggbn2 sx sy ms nx ny _ GR.out OJ.out).mono ?_
  rintro e u6 ⟨rfl, hb⟩
  have HS := Lib.hid (HS.out.below hb)
  have R0 := Lib.hid (R0.out.below hb)
  have R1 := Lib.hid (R1.out.below hb)
  have GA := Lib.hid (GA.out.below hb)
  have OG := Lib.hid (OG.out.below hb)
  have GD := Lib.hid (GD.out.below hb)
  have GR := Lib.hid (GR.out.below hb)
  clear hb OJ
  (try dsimp only)
  refine hK.out _ _ ⟨GmAt.range GA.out, GmAt.range HS.out.1⟩ (fun hHeld => ?_)
  clear hK K
  (try simp only [Act.put, List.setIfInBounds_toArray, List.set_cons_zero, List.set_cons_succ])
  refine wpAnyH_ready (rs := [4]) (by kernel_rfl) (by simp) ?_
  refine AllReadyH.cons rfl (fun K hK => ?_) AllReadyH.nil
  rw [if_pos (by rfl)]
  go_simp
  (try dsimp only)
  refine hK.out _ _ ⟨GmAt.range GA.out, GmAt.range HS.out.1⟩ (fun hHeld => ?_)
  clear hK K
  (try simp only [Act.put, List.setIfInBounds_toArray, List.set_cons_zero, List.set_cons_succ])
  refine wpAnyH_done (by kernel_rfl) ?_ _
  clear hHeld
  obtain ⟨MX, hMX⟩ : ∃ M : Int, M = ((1 + ggan1 + ggan2 + ggmn + ggbn1 + ggbn2 : Nat) : Int) := ⟨_, rfl⟩
  obtain ⟨MG, hMG⟩ : ∃ M : Int, M = ((1 + n : Nat) : Int) := ⟨_, rfl⟩
  have qx : ¬ MX < 0 := by omega
  have qg : ¬ MG < 0 := by omega
  have HMX := Lib.hid hMX
  have HMG := Lib.hid hMG
  clear hMX hMG
  go_upto_region 13 with fail
  go_step
  refine wpList_load_mid rfl 31 (.tmp 6) rfl A1 0 rfl _ _ (GmAt.range GA.out) Try.underlying31 rfl (by kernel_rfl) ?_
  simp only [Act.put, List.setIfInBounds_toArray, List.set_cons_zero, List.set_cons_succ]
  go_wp2_with fail
  refine (markG_any H0 g1 g2 g3 g4 g5 1 ggp ggs ggc ggl ggst ggsk ggre ggfe ggag (some ⟨g1, 0, none⟩) (some ⟨g2, 0, none⟩) ggan1 ggan1 ggan2 ggan2 ggap (some ⟨g3, 0, none⟩) ggmn ggmn (some ⟨g4, 0, none⟩) (some ⟨g5, 0, none⟩) ggbn1 ggbn1 ggbn2 ggbn2 ggbp ggrg sx sy ms nx ny _ OG.out GD.out (by have := HS.out.2.size; have := R0.out.2.2; omega) (by omega) (by omega)).mono ?_
  rintro e w10 ⟨rfl, hbb, -⟩
  rw [← HMX.out]
  have HS := Lib.hid (HS.out.but5 hbb (by omega) (by omega) (by omega) (by omega) (by omega))
  have R0 := Lib.hid (R0.out.but5 hbb (.inl hh1) (.inl hh2) (.inl hh3) (.inl hh4) (.inl hh5))
  have R1 := Lib.hid (R1.out.but5 hbb (.inr hg1) (.inr hg2) (.inr hg3) (.inr hg4) (.inr hg5))
  clear hbb GA OG GD GR
  go_wp2_with fail
  refine (eqN_same a1 a0 c1 c0 n NS _ Hn.out R1.out.1.row R0.out.1.row).mono ?_
  rintro e w11 ⟨rfl, hb⟩
  have HS := Lib.hid (HS.out.below hb)
  have R0 := Lib.hid (R0.out.below hb)
  have R1 := Lib.hid (R1.out.below hb)
  clear hb
  go_wp2_with fail
  refine (marksN_any wc.heap.size b1 a1 c1 n 1 NS _ Hn.out R1.out.1 (by omega)).mono ?_
  rintro e w12 ⟨rfl, hbut, ho⟩
  rw [← HMG.out]
  have hn1 := R1.out.1.new
  have HS := Lib.hid (HS.out.but5 (But5.of3 (k1 := b1) (k2 := b1) (k4 := b1) (k5 := b1) hbut) (by omega) (by omega) (by omega) (by omega) (by omega))
  have R0 := Lib.hid (R0.out.but5 (But5.of3 (k1 := b1) (k2 := b1) (k4 := b1) (k5 := b1) hbut) (.inl (by omega)) (.inl (by omega)) (.inl (by omega)) (.inl (by omega)) (.inl (by omega)))
  have GM := Lib.hid (show GIn w12 wc.heap.size a1 b1 n from ho)
  clear hbut ho R1
  go_wp2_with fail
  refine (heldN_any a1 c1 n 1 _ (OutN.row GM.out) (by omega)).mono ?_
  rintro e w13 ⟨rfl, hb⟩
  rw [← HMG.out]
  have HS := Lib.hid (HS.out.below hb)
  have R0 := Lib.hid (R0.out.below hb)
  have GM := Lib.hid (GM.out.below hb)
  clear hb
  go_upto_region 24 with fail
  go_step
  refine wpList_load_mid rfl 42 (.tmp 1) rfl w.heap.size 0 rfl _ _ (GmAt.range HS.out.1) Try.underlying42 rfl (by kernel_rfl) ?_
  simp only [Act.put, List.setIfInBounds_toArray, List.set_cons_zero, List.set_cons_succ]
  go_wp2_with fail
  refine (toG_any ggp ggs ggc ggl ggst ggsk ggre ggfe ggag gga1 gga2 ggan1 ggac1 ggan2 ggac2 ggap ggm ggmn ggmc ggb1 ggb2 ggbn1 ggbc1 ggbn2 ggbc2 ggbp ggrg sx sy ms nx ny _ (H1.out.below HS.out.2)).mono ?_
  rintro e w14 ⟨j1, j2, j3, j4, j5, rfl, og, -, hb⟩
  have HS := Lib.hid (HS.out.below hb)
  have R0 := Lib.hid (R0.out.below hb)
  have GM := Lib.hid (GM.out.below hb)
  have OJ := Lib.hid og.r
  clear hb og
  go_wp2_with fail
  refine (HIm.out (some ⟨j1, 0, none⟩) (some ⟨j2, 0, none⟩) (some ⟨j3, 0, none⟩) (some ⟨j4, 0, none⟩) (some ⟨j5, 0, none⟩) _ OJ.out).mono ?_
  rintro e w15 ⟨v2, rfl, hown, hb⟩
  obtain ⟨a2, c2, b2, rfl, hr2⟩ := rin_own hown Hn.out (by omega)
  have R2 := Lib.hid hr2
  have HS := Lib.hid (HS.out.below hb)
  have R0 := Lib.hid (R0.out.below hb)
  have GM := Lib.hid (GM.out.below hb)
  clear hb hown hr2 OJ
  go_wp2_with fail
  refine (eqN_same a2 a0 c2 c0 n NS _ Hn.out R2.out.1.row R0.out.1.row).mono ?_
  rintro e w16 ⟨rfl, hb⟩
  have HS := Lib.hid (HS.out.below hb)
  have GM := Lib.hid (GM.out.below hb)
  clear hb
  go_wp2_with fail
  refine (heldN_any a1 c1 n 1 _ (OutN.row GM.out) (by omega)).mono ?_
  rintro e w17 ⟨rfl, hb⟩
  rw [← HMG.out]
  have HS := Lib.hid (HS.out.below hb)
  clear hb
  go_wp2_with fail
  go_ret
  exact ⟨rfl, HS.out.2⟩
theorem walk_FnExactGainsOf (x : GV) {w : World} (hx : x.In w) : Calls Try.prog 7 #[x.val] w fun e w' => e = .returned (.bool true) ∧ Below w.heap.size w w' :=
  walk0_FnExactGainsOf _ _ _ _ _ _ _ _ _ _ _ _ _ _ _ _ _ _ _ _ _ _ _ _ _ _ _ _ _ _ _ _ w hx.2.2.2.2
namespace fnExactGainsOf
set_option maxHeartbeats 2000000 in
set_option maxRecDepth 100000 in
theorem lifted (os : Os) (started : os.Started) (H : Type) (enc : TypeId × Value → H) :
    ReturnsInHanded {} Try.checked os 7 .any (Rows.fnExactGainsOfSpec.pre6 enc Try.prog Try.f7 Rows.fnExactGainsOfRow.domain false) (Rows.fnExactGainsOfSpec.post enc Try.prog Try.f7 false true false false) := by
  refine returnsInHanded_of_change (C := Try.checked) own started (by kernel_rfl) Try.func7
    (ChangeSpec.witness6 (enc := enc) (C := Try.checked) false ⟨#[], #[.agg #[.int .i64 0, .int .i64 0, .bool false, .bool false, .bool false, .bool false, .bool false, .int .i64 0, .int .i64 0, .slice none 0 0, .slice none 0 0, .int .i64 0, .slice none 0 0, .slice none 0 0, .slice none 0 0, .int .i64 0, .int .i64 0]], []⟩ 8 (by kernel_rfl) (by kernel_rfl) (by kernel_rfl) (by kernel_rfl)) ?_
  intro W base args ds gs before hval0 hW hcnd _
  have hval : ∀ (j : Nat) t v, Try.f7.params[j]? = some t → args[j]? = some v → Value.okWide Try.prog W .any base t v := hval0
  have hW' := hW
  obtain ⟨p, q, hA0, hV, rfl, hfz, hnd⟩ := hW
  have hA : DataW.TrodAll enc Try.prog W 0 (fun _ => true) true Try.f7.params.toList args.toList ds p := hA0
  rw [Try.params7] at hA hval
  obtain ⟨v0, vs0, d0, ds0, p0, q0, hargs, rfl, rfl, h0, r0⟩ := trodAll_cons hA
  obtain ⟨rfl, rfl, rfl⟩ := trodAll_nil r0
  obtain rfl : args = #[v0] := by cases args; simp_all
  obtain ⟨rfl, rfl⟩ := trodVars_none hV
  have k0 := h0
  have lt0 : ∀ x ∈ p0, x.block < W.heap.size := by obtain ⟨m, hm⟩ := k0; exact DataW.trod_lt m _ _ _ hm
  obtain ⟨x0, rfl, w0⟩ := open_game Try.underlying42 Try.underlying23 Try.underlying26 Try.underlying24 Try.underlying2 Try.underlying4 (by kernel_rfl) (by kernel_rfl) (by kernel_rfl) (by kernel_rfl) (by kernel_rfl) (hval 0 42 v0 rfl rfl) h0
  clear hA0 hval0
  refine (walk_FnExactGainsOf x0 w0 (w := W)).mono fun e W' ⟨he, bel⟩ => ?_
  subst he
  exact ⟨_, rfl, _, _, _, [], _, [], hW', trodAll_mk1 (shut_bool Try.underlying4 _), (trodAll_cons_mk (Below.trod laidOut (by kernel_rfl) (of_decide_eq_true (by kernel_rfl)) k0 bel lt0) trodAll_mk0), rfl, bel.frame _, fun h => by cases h⟩

theorem proved : Rows.FnExactGainsOfSaid :=
  OpenClaim.holds_of_wide 7 Try.f7 rfl rfl rfl rfl rfl rfl rfl ⟨rfl, rfl, rfl, rfl, rfl⟩ rfl rfl rfl rfl rfl (by kernel_rfl) Try.func7 (by kernel_rfl)
    (of_decide_eq_true (by kernel_rfl)) (by unfold Func.isWrapper; first | (rw [if_pos (by decide +kernel)]; kernel_rfl) | (rw [if_neg (by decide +kernel)]; exact ⟨rfl, rfl⟩))
    (fun os started H enc _ => lifted os started H enc)
end fnExactGainsOf

end Go.Proofs.Ytenpnilljjfmkaa

/- Law8MO -/
namespace Go.Proofs.Ytenpnilljjfmkaa
open Go.Joins Go.ChangeShapes Go.WideShapes Go.ChangeAt Go.RowKit Go.Deep
set_option linter.unusedVariables false

set_option maxHeartbeats 8000000 in
set_option maxRecDepth 100000 in
theorem walk0_FnExactMoversOf (ggp ggs ggc ggl : Int) (ggst ggsk ggre ggfe ggag : Bool) (gga1 gga2 : Option Addr) (ggan1 ggac1 ggan2 ggac2 : Nat) (ggap : Int) (ggm : Option Addr) (ggmn ggmc : Nat) (ggb1 ggb2 : Option Addr) (ggbn1 ggbc1 ggbn2 ggbc2 : Nat) (ggbp ggrg : Int) (sx sy ms nx ny : List Int) (w : World) (h1 : GamW w gga1 gga2 ggan1 ggan2 ggm ggmn ggb1 ggb2 ggbn1 ggbn2 sx sy ms nx ny) :
    Calls Try.prog 5 #[.agg #[.int .i64 ggp, .int .i64 ggs, .bool ggst, .bool ggsk, .bool ggre, .bool ggfe, .bool ggag, .int .i64 ggc, .int .i64 ggl, .slice gga1 ggan1 ggac1, .slice gga2 ggan2 ggac2, .int .i64 ggap, .slice ggm ggmn ggmc, .slice ggb1 ggbn1 ggbc1, .slice ggb2 ggbn2 ggbc2, .int .i64 ggbp, .int .i64 ggrg]] w fun e w' => e = .returned (.bool true) ∧ Below w.heap.size w w' := by
  have ha1 := Lib.hid (And.intro h1.s.m1 (And.intro h1.s.m2 (And.intro h1.mn (And.intro h1.n.m1 h1.n.m2))))
  have HW1 := Lib.hid h1
  have HS := Lib.hid (gmb_new ggp ggs ggc ggl ggst ggsk ggre ggfe ggag gga1 gga2 ggan1 ggac1 ggan2 ggac2 ggap ggm ggmn ggmc ggb1 ggb2 ggbn1 ggbc1 ggbn2 ggbc2 ggbp ggrg w 42)
  clear h1
  obtain ⟨nA, hnA⟩ : ∃ n, gmN ggan1 ggan2 ggmn ggbn1 ggbn2 = n := ⟨_, rfl⟩
  have pA : 0 ≤ nA := by rw [← hnA]; unfold gmN; omega
  by_cases hz1 : nA ≤ 1048576
  rotate_left
  · have E1 : Hid (szW 1048576 (gmN ggan1 ggan2 ggmn ggbn1 ggbn2) = -1) := Lib.hid (by rw [hnA]; exact szW_no hz1)
    clear hnA pA hz1
    go_enter Try.func5, Try.ntmps5
    go_upto_region 2 with fail
    go_step
    refine wpList_load_mid rfl 42 (.tmp 1) rfl w.heap.size 0 rfl _ _ (GmAt.range HS.out.1) Try.underlying42 rfl (by kernel_rfl) ?_
    simp only [Act.put, List.setIfInBounds_toArray, List.set_cons_zero, List.set_cons_succ]
    go_wp2_with fail
    refine (szG_any ggp ggs ggc ggl ggst ggsk ggre ggfe ggag gga1 gga2 ggan1 ggac1 ggan2 ggac2 ggap ggm ggmn ggmc ggb1 ggb2 ggbn1 ggbc1 ggbn2 ggbc2 ggbp ggrg 1048576 (by omega) (by omega) ha1.out.1 ha1.out.2.1 ha1.out.2.2.1 ha1.out.2.2.2.1 ha1.out.2.2.2.2 _).mono ?_
    rintro e v1 ⟨rfl, hb⟩
    rw [E1.out]
    have HS := Lib.hid (HS.out.below hb)
    clear hb
    go_wp2_with fail
    go_ret
    exact ⟨rfl, HS.out.2⟩
  have q0 : 0 ≤ 1048576 - nA := by omega
  have E1 : Hid (szW 1048576 (gmN ggan1 ggan2 ggmn ggbn1 ggbn2) = 1048576 - nA) := Lib.hid (by rw [hnA]; exact szW_yes hz1)
  have hsum : ggan1 + ggan2 + ggmn + ggbn1 + ggbn2 ≤ 1048576 := by unfold gmN at hnA; omega
  have H1 := Lib.hid (HW1.out.toR (by unfold gmN at hnA; omega))
  clear HW1 hnA hz1
  obtain ⟨NS, hNS⟩ : ∃ NS, NS = RowX (okG ggp ggs ggc ggl ggst ggsk ggre ggfe ggag ggan1 ggan2 ggap sx sy ms ggbp nx ny ggrg) (mvsV (stp ggp ggc ggl ggst ggsk ggre ggfe ggag) ⟨ggap, sx, sy⟩ ms) := ⟨_, rfl⟩
  have hle : NS.length ≤ 120 := by rw [hNS]; exact mvs_le _ _ _ _ _ _ _ _ _
  obtain ⟨cv, hcv⟩ : ∃ cv : Int, cv = (if okG ggp ggs ggc ggl ggst ggsk ggre ggfe ggag ggan1 ggan2 ggap sx sy ms ggbp nx ny ggrg = true then 0 else 1) := ⟨_, rfl⟩
  have HSp : Hid (∀ (a1 a2 mm b1 b2 : Option Addr) (u : World), GamR u a1 a2 ggan1 ggan2 mm ggmn b1 b2 ggbn1 ggbn2 sx sy ms nx ny → Calls Try.prog 22 #[.agg #[.int .i64 ggp, .int .i64 ggs, .bool ggst, .bool ggsk, .bool ggre, .bool ggfe, .bool ggag, .int .i64 ggc, .int .i64 ggl, .slice a1 ggan1 ggan1, .slice a2 ggan2 ggan2, .int .i64 ggap, .slice mm ggmn ggmn, .slice b1 ggbn1 ggbn1, .slice b2 ggbn2 ggbn2, .int .i64 ggbp, .int .i64 ggrg]] u fun e w' => ∃ v, e = .returned (.tuple #[v, .int .i64 cv]) ∧ w'.ownsRow u.heap.size 2 1 v NS.length (nvs NS) ∧ Below u.heap.size u w') := Lib.hid (fun a1 a2 mm b1 b2 u hu => (specMoversOf_any ggp ggs ggc ggl ggst ggsk ggre ggfe ggag a1 a2 ggan1 ggan1 ggan2 ggan2 ggap mm ggmn ggmn b1 b2 ggbn1 ggbn1 ggbn2 ggbn2 ggbp ggrg sx sy ms nx ny u hu).mono (fun e w' hq => by rw [hNS, hcv]; exact hq.ex))
  have HIm : Hid (∀ (a1 a2 mm b1 b2 : Option Addr) (u : World), GamR u a1 a2 ggan1 ggan2 mm ggmn b1 b2 ggbn1 ggbn2 sx sy ms nx ny → Calls Try.prog 23 #[.agg #[.int .i64 ggp, .int .i64 ggs, .bool ggst, .bool ggsk, .bool ggre, .bool ggfe, .bool ggag, .int .i64 ggc, .int .i64 ggl, .slice a1 ggan1 ggan1, .slice a2 ggan2 ggan2, .int .i64 ggap, .slice mm ggmn ggmn, .slice b1 ggbn1 ggbn1, .slice b2 ggbn2 ggbn2, .int .i64 ggbp, .int .i64 ggrg]] u fun e w' => ∃ v, e = .returned (.tuple #[v, .int .i64 cv]) ∧ w'.ownsRow u.heap.size 2 1 v NS.length (nvs NS) ∧ Below u.heap.size u w') := Lib.hid (fun a1 a2 mm b1 b2 u hu => (implMoversOf_any ggp ggs ggc ggl ggst ggsk ggre ggfe ggag a1 a2 ggan1 ggan1 ggan2 ggan2 ggap mm ggmn ggmn b1 b2 ggbn1 ggbn1 ggbn2 ggbn2 ggbp ggrg sx sy ms nx ny u hu).mono (fun e w' hq => by rw [hNS, hcv]; exact hq.ex))
  obtain ⟨n, hn⟩ : ∃ n, NS.length = n := ⟨_, rfl⟩
  have Hn := Lib.hid hn
  rw [hn] at hle HSp HIm
  clear hNS hcv hn
  go_enter Try.func5, Try.ntmps5
  go_upto_region 2 with fail
  go_step
  refine wpList_load_mid rfl 42 (.tmp 1) rfl w.heap.size 0 rfl _ _ (GmAt.range HS.out.1) Try.underlying42 rfl (by kernel_rfl) ?_
  simp only [Act.put, List.setIfInBounds_toArray, List.set_cons_zero, List.set_cons_succ]
  go_wp2_with fail
  refine (szG_any ggp ggs ggc ggl ggst ggsk ggre ggfe ggag gga1 gga2 ggan1 ggac1 ggan2 ggac2 ggap ggm ggmn ggmc ggb1 ggb2 ggbn1 ggbc1 ggbn2 ggbc2 ggbp ggrg 1048576 (by omega) (by omega) ha1.out.1 ha1.out.2.1 ha1.out.2.2.1 ha1.out.2.2.2.1 ha1.out.2.2.2.2 _).mono ?_
  rintro e v1 ⟨rfl, hb⟩
  rw [E1.out]
  have HS := Lib.hid (HS.out.below hb)
  clear hb
  go_upto_region 5 with fail
  go_step
  refine wpList_load_mid rfl 42 (.tmp 1) rfl w.heap.size 0 rfl _ _ (GmAt.range HS.out.1) Try.underlying42 rfl (by kernel_rfl) ?_
  simp only [Act.put, List.setIfInBounds_toArray, List.set_cons_zero, List.set_cons_succ]
  go_wp2_with fail
  refine (toG_any ggp ggs ggc ggl ggst ggsk ggre ggfe ggag gga1 gga2 ggan1 ggac1 ggan2 ggac2 ggap ggm ggmn ggmc ggb1 ggb2 ggbn1 ggbc1 ggbn2 ggbc2 ggbp ggrg sx sy ms nx ny _ (H1.out.below HS.out.2)).mono ?_
  rintro e w5 ⟨g1, g2, g3, g4, g5, rfl, og, -, hb⟩
  have HS := Lib.hid (HS.out.below hb)
  have OG := Lib.hid og.r
  clear hb og
  go_wp2_with fail
  refine (HSp.out (some ⟨g1, 0, none⟩) (some ⟨g2, 0, none⟩) (some ⟨g3, 0, none⟩) (some ⟨g4, 0, none⟩) (some ⟨g5, 0, none⟩) _ OG.out).mono ?_
  rintro e w6 ⟨v0, rfl, hown, hb⟩
  obtain ⟨a0, c0, b0, rfl, hr0⟩ := rin_own (own_lower (C := w.heap.size + 1) hown HS.out.1.1) Hn.out (by omega)
  have R0 := Lib.hid hr0
  have HS := Lib.hid (HS.out.below hb)
  have hsz6 : w.heap.size < w6.heap.size := HS.out.1.1
  clear hb OG hown hr0
  go_upto_region 6 with fail
  obtain ⟨H0, hH0⟩ : ∃ H0, H0 = w6.heap.size := ⟨_, rfl⟩
  rw [← hH0] at R0 hsz6
  go_cut [6] (fun sx' wx => ∃ A g1 g2 g3 g4 g5 : Nat, sx' = .pointer (some ⟨A, 0, none⟩) ∧ H0 ≤ A ∧ GmB w w.heap.size ggp ggs ggc ggl ggst ggsk ggre ggfe ggag gga1 gga2 ggan1 ggac1 ggan2 ggac2 ggap ggm ggmn ggmc ggb1 ggb2 ggbn1 ggbc1 ggbn2 ggbc2 ggbp ggrg wx ∧ RIn wx (w.heap.size + 1) H0 a0 b0 NS ∧ GmAt wx A ggp ggs ggc ggl ggst ggsk ggre ggfe ggag (some ⟨g1, 0, none⟩) (some ⟨g2, 0, none⟩) ggan1 ggan1 ggan2 ggan2 ggap (some ⟨g3, 0, none⟩) ggmn ggmn (some ⟨g4, 0, none⟩) (some ⟨g5, 0, none⟩) ggbn1 ggbn1 ggbn2 ggbn2 ggbp ggrg ∧ GamO wx H0 (some ⟨g1, 0, none⟩) (some ⟨g2, 0, none⟩) g1 g2 ggan1 ggan2 (some ⟨g3, 0, none⟩) g3 ggmn (some ⟨g4, 0, none⟩) (some ⟨g5, 0, none⟩) g4 g5 ggbn1 ggbn2 sx sy ms nx ny ∧ GamD wx g1 g2 g3 g4 g5)
  case first =>
    go_step
    refine wpList_load_mid rfl 42 (.tmp 1) rfl w.heap.size 0 rfl _ _ (GmAt.range HS.out.1) Try.underlying42 rfl (by kernel_rfl) ?_
    simp only [Act.put, List.setIfInBounds_toArray, List.set_cons_zero, List.set_cons_succ]
    go_wp2_with fail
    refine (toG2_any ggp ggs ggc ggl ggst ggsk ggre ggfe ggag gga1 gga2 ggan1 ggac1 ggan2 ggac2 ggap ggm ggmn ggmc ggb1 ggb2 ggbn1 ggbc1 ggbn2 ggbc2 ggbp ggrg sx sy ms nx ny _ (H1.out.below HS.out.2)).mono ?_
    rintro e w5 ⟨g1, g2, g3, g4, g5, rfl, og, -, gd, hb⟩
    have HS := Lib.hid (HS.out.below hb)
    have R0 := Lib.hid (R0.out.below hb)
    have hs5 := hb.size
    rw [← hH0] at og hs5
    clear hb
    go_wp2_with (refine wpList_store_mid rfl 31 _ _ rfl w5.heap.size 0 (List.toArray [.int .i64 ggp, .int .i64 ggs, .bool ggst, .bool ggsk, .bool ggre, .bool ggfe, .bool ggag, .int .i64 ggc, .int .i64 ggl, .slice (some ⟨g1, 0, none⟩) ggan1 ggan1, .slice (some ⟨g2, 0, none⟩) ggan2 ggan2, .int .i64 ggap, .slice (some ⟨g3, 0, none⟩) ggmn ggmn, .slice (some ⟨g4, 0, none⟩) ggbn1 ggbn1, .slice (some ⟨g5, 0, none⟩) ggbn2 ggbn2, .int .i64 ggbp, .int .i64 ggrg]) rfl rfl (there17 w5 31) (by kernel_rfl) (gm_one _ _ _ _ _ _ _ _ _ _ _ _ _ _ _ _ _ _ _ _ _ _ _ _ _ _ _) ?_)
    go_meet
    have hst := below_stored w5 31 [.int .i64 ggp, .int .i64 ggs, .bool ggst, .bool ggsk, .bool ggre, .bool ggfe, .bool ggag, .int .i64 ggc, .int .i64 ggl, .slice (some ⟨g1, 0, none⟩) ggan1 ggan1, .slice (some ⟨g2, 0, none⟩) ggan2 ggan2, .int .i64 ggap, .slice (some ⟨g3, 0, none⟩) ggmn ggmn, .slice (some ⟨g4, 0, none⟩) ggbn1 ggbn1, .slice (some ⟨g5, 0, none⟩) ggbn2 ggbn2, .int .i64 ggbp, .int .i64 ggrg]
    exact ⟨_, g1, g2, g3, g4, g5, rfl, hs5, HS.out.below hst, R0.out.below hst, gm_of_rg (by rw [size_scg]; simp) (World.rangeAt_setCells_same _ _ 0 _ (there17 w5 31)), og.below hst, ⟨Nat.lt_of_lt_of_le gd.l1 hst.size, Nat.lt_of_lt_of_le gd.l2 hst.size, Nat.lt_of_lt_of_le gd.l3 hst.size, Nat.lt_of_lt_of_le gd.l4 hst.size, Nat.lt_of_lt_of_le gd.l5 hst.size, gd.n13, gd.n23, gd.n14, gd.n24, gd.n15, gd.n25, gd.n34, gd.n35⟩⟩
  case rest =>
  obtain ⟨A1, g1, g2, g3, g4, g5, rfl, hA1, hs, hr0, hga, hog, hgd⟩ := hcut
  have HS := Lib.hid hs
  have R0 := Lib.hid hr0
  have GA := Lib.hid hga
  have OG := Lib.hid hog
  have GD := Lib.hid hgd
  have GR := Lib.hid hog.r
  have hA1s := hga.1
  have hg1 := hgd.l1
  have hg2 := hgd.l2
  have hg3 := hgd.l3
  have hg4 := hgd.l4
  have hg5 := hgd.l5
  have hh1 := hog.s.o1.new
  have hh2 := hog.s.o2.new
  have hh3 := hog.m.new
  have hh4 := hog.n.o1.new
  have hh5 := hog.n.o2.new
  clear hs hr0 hga hog hgd hH0
  go_upto_region 7 with fail
  go_step
  refine wpList_load_mid rfl 31 (.tmp 6) rfl A1 0 rfl _ _ (GmAt.range GA.out) Try.underlying31 rfl (by kernel_rfl) ?_
  simp only [Act.put, List.setIfInBounds_toArray, List.set_cons_zero, List.set_cons_succ]
  go_wp2_with fail
  refine (HIm.out (some ⟨g1, 0, none⟩) (some ⟨g2, 0, none⟩) (some ⟨g3, 0, none⟩) (some ⟨g4, 0, none⟩) (some ⟨g5, 0, none⟩) _ GR.out).mono ?_
  rintro e w7 ⟨v1, rfl, hown, hb⟩
  obtain ⟨a1, c1, b1, rfl, hr1⟩ := rin_own hown Hn.out (by omega)
  have R1 := Lib.hid hr1
  have HS := Lib.hid (HS.out.below hb)
  have R0 := Lib.hid (R0.out.below hb)
  have GA := Lib.hid (GA.out.below hb)
  have OG := Lib.hid (OG.out.below hb)
  have GD := Lib.hid (GD.out.below hb)
  have GR := Lib.hid (GR.out.below hb)
  clear hb hown hr1
  go_wp2_with fail
  refine (eqN_same a1 a0 c1 c0 n NS _ Hn.out R1.out.1.row R0.out.1.row).mono ?_
  rintro e w8 ⟨rfl, hb⟩
  have HS := Lib.hid (HS.out.below hb)
  have R0 := Lib.hid (R0.out.below hb)
  have R1 := Lib.hid (R1.out.below hb)
  have GA := Lib.hid (GA.out.below hb)
  have OG := Lib.hid (OG.out.below hb)
  have GD := Lib.hid (GD.out.below hb)
  have GR := Lib.hid (GR.out.below hb)
  clear hb
  go_upto_region 10 with fail
  refine wp_region_held_drew (S := fun u => u.rangeAt A1 0 [.int .i64 ggp, .int .i64 ggs, .bool ggst, .bool ggsk, .bool ggre, .bool ggfe, .bool ggag, .int .i64 ggc, .int .i64 ggl, .slice (some ⟨g1, 0, none⟩) ggan1 ggan1, .slice (some ⟨g2, 0, none⟩) ggan2 ggan2, .int .i64 ggap, .slice (some ⟨g3, 0, none⟩) ggmn ggmn, .slice (some ⟨g4, 0, none⟩) ggbn1 ggbn1, .slice (some ⟨g5, 0, none⟩) ggbn2 ggbn2, .int .i64 ggbp, .int .i64 ggrg] ∧ u.rangeAt w.heap.size 0 [.int .i64 ggp, .int .i64 ggs, .bool ggst, .bool ggsk, .bool ggre, .bool ggfe, .bool ggag, .int .i64 ggc, .int .i64 ggl, .slice gga1 ggan1 ggac1, .slice gga2 ggan2 ggac2, .int .i64 ggap, .slice ggm ggmn ggmc, .slice ggb1 ggbn1 ggbc1, .slice ggb2 ggbn2 ggbc2, .int .i64 ggbp, .int .i64 ggrg]) (by kernel_rfl) ⟨GmAt.range GA.out, GmAt.range HS.out.1⟩ (fun hHeld => ?_)
  have HS := Lib.hid (HS.out.below (below_dn (Below.refl _ _) 1))
  have R0 := Lib.hid (R0.out.below (below_dn (Below.refl _ _) 1))
  have R1 := Lib.hid (R1.out.below (below_dn (Below.refl _ _) 1))
  have GA := Lib.hid (GA.out.below (below_dn (Below.refl _ _) 1))
  have OG := Lib.hid (OG.out.below (below_dn (Below.refl _ _) 1))
  have GD := Lib.hid (GD.out.below (below_dn (Below.refl _ _) 1))
  have GR := Lib.hid (GR.out.below (below_dn (Below.refl _ _) 1))
  refine wpAnyH_take (i := 0) rfl (by kernel_rfl) (by kernel_rfl) (by kernel_rfl) (fun _ _ _ h => h) (yieldsIf_load_mid (by rfl) 31 _ rfl A1 0 rfl [.int .i64 ggp, .int .i64 ggs, .bool ggst, .bool ggsk, .bool ggre, .bool ggfe, .bool ggag, .int .i64 ggc, .int .i64 ggl, .slice (some ⟨g1, 0, none⟩) ggan1 ggan1, .slice (some ⟨g2, 0, none⟩) ggan2 ggan2, .int .i64 ggap, .slice (some ⟨g3, 0, none⟩) ggmn ggmn, .slice (some ⟨g4, 0, none⟩) ggbn1 ggbn1, .slice (some ⟨g5, 0, none⟩) ggbn2 ggbn2, .int .i64 ggbp, .int .i64 ggrg] _ (fun u hu => hu.1) Try.underlying31 rfl (by kernel_rfl)) hHeld ?_
  simp only [Act.put, List.setIfInBounds_toArray]
  refine wpAnyH_take (i := 1) rfl (by kernel_rfl) (by kernel_rfl) (by kernel_rfl) (fun _ _ _ h => h) (yieldsIf_load_mid (by rfl) 42 _ rfl w.heap.size 0 rfl [.int .i64 ggp, .int .i64 ggs, .bool ggst, .bool ggsk, .bool ggre, .bool ggfe, .bool ggag, .int .i64 ggc, .int .i64 ggl, .slice gga1 ggan1 ggac1, .slice gga2 ggan2 ggac2, .int .i64 ggap, .slice ggm ggmn ggmc, .slice ggb1 ggbn1 ggbc1, .slice ggb2 ggbn2 ggbc2, .int .i64 ggbp, .int .i64 ggrg] _ (fun u hu => hu.2) Try.underlying42 rfl (by kernel_rfl)) hHeld ?_
  simp only [Act.put]
  refine wpAnyH_ready (rs := [2]) (by kernel_rfl) (by simp) ?_
  refine AllReadyH.cons rfl (fun K hK => ?_) AllReadyH.nil
  rw [if_pos (by rfl)]
  go_simp
  go_at_call 20
  refine (toG_any ggp ggs ggc ggl ggst ggsk ggre ggfe ggag gga1 gga2 ggan1 ggac1 ggan2 ggac2 ggap ggm ggmn ggmc ggb1 ggb2 ggbn1 ggbc1 ggbn2 ggbc2 ggbp ggrg sx sy ms nx ny _ (H1.out.below HS.out.2)).mono ?_
  rintro e u5 ⟨j1, j2, j3, j4, j5, rfl, og, -, hb⟩
  have HS := Lib.hid (HS.out.below hb)
  have R0 := Lib.hid (R0.out.below hb)
  have R1 := Lib.hid (R1.out.below hb)
  have GA := Lib.hid (GA.out.below hb)
  have OG := Lib.hid (OG.out.below hb)
  have GD := Lib.hid (GD.out.below hb)
  have GR := Lib.hid (GR.out.below hb)
  have OJ := Lib.hid og.r
  clear hb og
  (try dsimp only)
  refine hK.out _ _ ⟨GmAt.range GA.out, GmAt.range HS.out.1⟩ (fun hHeld => ?_)
  clear hK K
  (try simp only [Act.put, List.setIfInBounds_toArray, List.set_cons_zero, List.set_cons_succ])
  refine wpAnyH_ready (rs := [3]) (by kernel_rfl) (by simp) ?_
  refine AllReadyH.cons rfl (fun K hK => ?_) AllReadyH.nil
  rw [if_pos (by rfl)]
  go_simp
  go_at_call 13
  refine (eqG_same ggp ggs ggc ggl ggst ggsk ggre ggfe ggag (some ⟨g1, 0, none⟩) (some ⟨g2, 0, none⟩) ggan1 ggan1 ggan2 ggan2 ggap (some ⟨g3, 0, none⟩) ggmn ggmn (some ⟨g4, 0, none⟩) (some ⟨g5, 0, none⟩) ggbn1 ggbn1 ggbn2 ggbn2 ggbp ggrg (some ⟨j1, 0, none⟩) (some ⟨j2, 0, none⟩) ggan1 ggan2 (some ⟨j3, 0, none⟩) ggmn (some ⟨j4, 0, none⟩) (some ⟨j5, 0, none⟩) ggbn1 ggbn2 sx sy ms nx ny _ GR.out OJ.out).mono ?_
  rintro e u6 ⟨rfl, hb⟩
  have HS := Lib.hid (HS.out.below hb)
  have R0 := Lib.hid (R0.out.below hb)
  have R1 := Lib.hid (R1.out.below hb)
  have GA := Lib.hid (GA.out.below hb)
  have OG := Lib.hid (OG.out.below hb)
  have GD := Lib.hid (GD.out.below hb)
  have GR := Lib.hid (GR.out.below hb)
  clear hb OJ
  (try dsimp only)
  refine hK.out _ _ ⟨GmAt.range GA.out, GmAt.range HS.out.1⟩ (fun hHeld => ?_)
  clear hK K
  (try simp only [Act.put, List.setIfInBounds_toArray, List.set_cons_zero, List.set_cons_succ])
  refine wpAnyH_ready (rs := [4]) (by kernel_rfl) (by simp) ?_
  refine AllReadyH.cons rfl (fun K hK => ?_) AllReadyH.nil
  rw [if_pos (by rfl)]
  go_simp
  (try dsimp only)
  refine hK.out _ _ ⟨GmAt.range GA.out, GmAt.range HS.out.1⟩ (fun hHeld => ?_)
  clear hK K
  (try simp only [Act.put, List.setIfInBounds_toArray, List.set_cons_zero, List.set_cons_succ])
  refine wpAnyH_done (by kernel_rfl) ?_ _
  clear hHeld
  obtain ⟨MX, hMX⟩ : ∃ M : Int, M = ((1 + ggan1 + ggan2 + ggmn + ggbn1 + ggbn2 : Nat) : Int) := ⟨_, rfl⟩
  obtain ⟨MG, hMG⟩ : ∃ M : Int, M = ((1 + n : Nat) : Int) := ⟨_, rfl⟩
  have qx : ¬ MX < 0 := by omega
  have qg : ¬ MG < 0 := by omega
  have HMX := Lib.hid hMX
  have HMG := Lib.hid hMG
  clear hMX hMG
  go_upto_region 13 with fail
  go_step
  refine wpList_load_mid rfl 31 (.tmp 6) rfl A1 0 rfl _ _ (GmAt.range GA.out) Try.underlying31 rfl (by kernel_rfl) ?_
  simp only [Act.put, List.setIfInBounds_toArray, List.set_cons_zero, List.set_cons_succ]
  go_wp2_with fail
  refine (markG_any H0 g1 g2 g3 g4 g5 1 ggp ggs ggc ggl ggst ggsk ggre ggfe ggag (some ⟨g1, 0, none⟩) (some ⟨g2, 0, none⟩) ggan1 ggan1 ggan2 ggan2 ggap (some ⟨g3, 0, none⟩) ggmn ggmn (some ⟨g4, 0, none⟩) (some ⟨g5, 0, none⟩) ggbn1 ggbn1 ggbn2 ggbn2 ggbp ggrg sx sy ms nx ny _ OG.out GD.out (by have := HS.out.2.size; have := R0.out.2.2; omega) (by omega) (by omega)).mono ?_
  rintro e w10 ⟨rfl, hbb, -⟩
  rw [← HMX.out]
  have HS := Lib.hid (HS.out.but5 hbb (by omega) (by omega) (by omega) (by omega) (by omega))
  have R0 := Lib.hid (R0.out.but5 hbb (.inl hh1) (.inl hh2) (.inl hh3) (.inl hh4) (.inl hh5))
  have R1 := Lib.hid (R1.out.but5 hbb (.inr hg1) (.inr hg2) (.inr hg3) (.inr hg4) (.inr hg5))
  clear hbb GA OG GD GR
  go_wp2_with fail
  refine (eqN_same a1 a0 c1 c0 n NS _ Hn.out R1.out.1.row R0.out.1.row).mono ?_
  rintro e w11 ⟨rfl, hb⟩
  have HS := Lib.hid (HS.out.below hb)
  have R0 := Lib.hid (R0.out.below hb)
  have R1 := Lib.hid (R1.out.below hb)
  clear hb
  go_wp2_with fail
  refine (marksN_any wc.heap.size b1 a1 c1 n 1 NS _ Hn.out R1.out.1 (by omega)).mono ?_
  rintro e w12 ⟨rfl, hbut, ho⟩
  rw [← HMG.out]
  have hn1 := R1.out.1.new
  have HS := Lib.hid (HS.out.but5 (But5.of3 (k1 := b1) (k2 := b1) (k4 := b1) (k5 := b1) hbut) (by omega) (by omega) (by omega) (by omega) (by omega))
  have R0 := Lib.hid (R0.out.but5 (But5.of3 (k1 := b1) (k2 := b1) (k4 := b1) (k5 := b1) hbut) (.inl (by omega)) (.inl (by omega)) (.inl (by omega)) (.inl (by omega)) (.inl (by omega)))
  have GM := Lib.hid (show GIn w12 wc.heap.size a1 b1 n from ho)
  clear hbut ho R1
  go_wp2_with fail
  refine (heldN_any a1 c1 n 1 _ (OutN.row GM.out) (by omega)).mono ?_
  rintro e w13 ⟨rfl, hb⟩
  rw [← HMG.out]
  have HS := Lib.hid (HS.out.below hb)
  have R0 := Lib.hid (R0.out.below hb)
  have GM := Lib.hid (GM.out.below hb)
  clear hb
  go_upto_region 24 with fail
  go_step
  refine wpList_load_mid rfl 42 (.tmp 1) rfl w.heap.size 0 rfl _ _ (GmAt.range HS.out.1) Try.underlying42 rfl (by kernel_rfl) ?_
  simp only [Act.put, List.setIfInBounds_toArray, List.set_cons_zero, List.set_cons_succ]
  go_wp2_with fail
  refine (toG_any ggp ggs ggc ggl ggst ggsk ggre ggfe ggag gga1 gga2 ggan1 ggac1 ggan2 ggac2 ggap ggm ggmn ggmc ggb1 ggb2 ggbn1 ggbc1 ggbn2 ggbc2 ggbp ggrg sx sy ms nx ny _ (H1.out.below HS.out.2)).mono ?_
  rintro e w14 ⟨j1, j2, j3, j4, j5, rfl, og, -, hb⟩
  have HS := Lib.hid (HS.out.below hb)
  have R0 := Lib.hid (R0.out.below hb)
  have GM := Lib.hid (GM.out.below hb)
  have OJ := Lib.hid og.r
  clear hb og
  go_wp2_with fail
  refine (HIm.out (some ⟨j1, 0, none⟩) (some ⟨j2, 0, none⟩) (some ⟨j3, 0, none⟩) (some ⟨j4, 0, none⟩) (some ⟨j5, 0, none⟩) _ OJ.out).mono ?_
  rintro e w15 ⟨v2, rfl, hown, hb⟩
  obtain ⟨a2, c2, b2, rfl, hr2⟩ := rin_own hown Hn.out (by omega)
  have R2 := Lib.hid hr2
  have HS := Lib.hid (HS.out.below hb)
  have R0 := Lib.hid (R0.out.below hb)
  have GM := Lib.hid (GM.out.below hb)
  clear hb hown hr2 OJ
  go_wp2_with fail
  refine (eqN_same a2 a0 c2 c0 n NS _ Hn.out R2.out.1.row R0.out.1.row).mono ?_
  rintro e w16 ⟨rfl, hb⟩
  have HS := Lib.hid (HS.out.below hb)
  have GM := Lib.hid (GM.out.below hb)
  clear hb
  go_wp2_with fail
  refine (heldN_any a1 c1 n 1 _ (OutN.row GM.out) (by omega)).mono ?_
  rintro e w17 ⟨rfl, hb⟩
  rw [← HMG.out]
  have HS := Lib.hid (HS.out.below hb)
  clear hb
  go_wp2_with fail
  go_ret
  exact ⟨rfl, HS.out.2⟩
theorem walk_FnExactMoversOf (x : GV) {w : World} (hx : x.In w) : Calls Try.prog 5 #[x.val] w fun e w' => e = .returned (.bool true) ∧ Below w.heap.size w w' :=
  walk0_FnExactMoversOf _ _ _ _ _ _ _ _ _ _ _ _ _ _ _ _ _ _ _ _ _ _ _ _ _ _ _ _ _ _ _ _ w hx.2.2.2.2
namespace fnExactMoversOf
set_option maxHeartbeats 2000000 in
set_option maxRecDepth 100000 in
theorem lifted (os : Os) (started : os.Started) (H : Type) (enc : TypeId × Value → H) :
    ReturnsInHanded {} Try.checked os 5 .any (Rows.fnExactMoversOfSpec.pre6 enc Try.prog Try.f5 Rows.fnExactMoversOfRow.domain false) (Rows.fnExactMoversOfSpec.post enc Try.prog Try.f5 false true false false) := by
  refine returnsInHanded_of_change (C := Try.checked) own started (by kernel_rfl) Try.func5
    (ChangeSpec.witness6 (enc := enc) (C := Try.checked) false ⟨#[], #[.agg #[.int .i64 0, .int .i64 0, .bool false, .bool false, .bool false, .bool false, .bool false, .int .i64 0, .int .i64 0, .slice none 0 0, .slice none 0 0, .int .i64 0, .slice none 0 0, .slice none 0 0, .slice none 0 0, .int .i64 0, .int .i64 0]], []⟩ 8 (by kernel_rfl) (by kernel_rfl) (by kernel_rfl) (by kernel_rfl)) ?_
  intro W base args ds gs before hval0 hW hcnd _
  have hval : ∀ (j : Nat) t v, Try.f5.params[j]? = some t → args[j]? = some v → Value.okWide Try.prog W .any base t v := hval0
  have hW' := hW
  obtain ⟨p, q, hA0, hV, rfl, hfz, hnd⟩ := hW
  have hA : DataW.TrodAll enc Try.prog W 0 (fun _ => true) true Try.f5.params.toList args.toList ds p := hA0
  rw [Try.params5] at hA hval
  obtain ⟨v0, vs0, d0, ds0, p0, q0, hargs, rfl, rfl, h0, r0⟩ := trodAll_cons hA
  obtain ⟨rfl, rfl, rfl⟩ := trodAll_nil r0
  obtain rfl : args = #[v0] := by cases args; simp_all
  obtain ⟨rfl, rfl⟩ := trodVars_none hV
  have k0 := h0
  have lt0 : ∀ x ∈ p0, x.block < W.heap.size := by obtain ⟨m, hm⟩ := k0; exact DataW.trod_lt m _ _ _ hm
  obtain ⟨x0, rfl, w0⟩ := open_game Try.underlying42 Try.underlying23 Try.underlying26 Try.underlying24 Try.underlying2 Try.underlying4 (by kernel_rfl) (by kernel_rfl) (by kernel_rfl) (by kernel_rfl) (by kernel_rfl) (hval 0 42 v0 rfl rfl) h0
  clear hA0 hval0
  refine (walk_FnExactMoversOf x0 w0 (w := W)).mono fun e W' ⟨he, bel⟩ => ?_
  subst he
  exact ⟨_, rfl, _, _, _, [], _, [], hW', trodAll_mk1 (shut_bool Try.underlying4 _), (trodAll_cons_mk (Below.trod laidOut (by kernel_rfl) (of_decide_eq_true (by kernel_rfl)) k0 bel lt0) trodAll_mk0), rfl, bel.frame _, fun h => by cases h⟩

theorem proved : Rows.FnExactMoversOfSaid :=
  OpenClaim.holds_of_wide 5 Try.f5 rfl rfl rfl rfl rfl rfl rfl ⟨rfl, rfl, rfl, rfl, rfl⟩ rfl rfl rfl rfl rfl (by kernel_rfl) Try.func5 (by kernel_rfl)
    (of_decide_eq_true (by kernel_rfl)) (by unfold Func.isWrapper; first | (rw [if_pos (by decide +kernel)]; kernel_rfl) | (rw [if_neg (by decide +kernel)]; exact ⟨rfl, rfl⟩))
    (fun os started H enc _ => lifted os started H enc)
end fnExactMoversOf

end Go.Proofs.Ytenpnilljjfmkaa
