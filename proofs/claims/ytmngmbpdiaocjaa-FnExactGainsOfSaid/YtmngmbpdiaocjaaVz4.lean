/- Game4, Game5, Game6, Off8, Game7, Bp8, Wat, WatS, Mv7, Tk6, Rm7, Mk7, Mk8, Mk9, one after the other (what the laws reach of them). No conditions. -/
import Derived.Test.YtmngmbpdiaocjaaVz3
namespace Go.Proofs.Ytmngmbpdiaocjaa
open Go.Joins Go.ChangeShapes Go.WideShapes Go.ChangeAt Go.RowKit Go.Deep
set_option linter.unusedVariables false
set_option maxHeartbeats 8000000
set_option maxRecDepth 100000
/- Game4 -/
def gmN (an1 an2 mn bn1 bn2 : Nat) : Int := (an1 : Int) + an2 + mn + bn1 + bn2
def szW (left n : Int) : Int := if n ≤ left then left - n else -1
theorem szW_yes {left n : Int} (h : n ≤ left) : szW left n = left - n := if_pos h
theorem szW_no {left n : Int} (h : ¬ n ≤ left) : szW left n = -1 := if_neg h
theorem szG_any (Jp Js Jc Jl : Int) (Jst Jsk Jre Jfe Jag : Bool) (Ja1 Ja2 : Option Addr) (Jan1 Jac1 Jan2 Jac2 : Nat) (Jap : Int) (Jm : Option Addr) (Jmn Jmc : Nat) (Jb1 Jb2 : Option Addr) (Jbn1 Jbc1 Jbn2 Jbc2 : Nat) (Jbp Jrg : Int) (left : Int) (hl : 0 ≤ left) (hl2 : left ≤ 1048576) (ha1 : Jan1 ≤ 9223372036854775807) (ha2 : Jan2 ≤ 9223372036854775807) (hm : Jmn ≤ 9223372036854775807) (hb1 : Jbn1 ≤ 9223372036854775807) (hb2 : Jbn2 ≤ 9223372036854775807) (w : World) :
  Calls Try.prog 8 #[.agg #[.int .i64 Jp, .int .i64 Js, .bool Jst, .bool Jsk, .bool Jre, .bool Jfe, .bool Jag, .int .i64 Jc, .int .i64 Jl, .slice Ja1 Jan1 Jac1, .slice Ja2 Jan2 Jac2, .int .i64 Jap, .slice Jm Jmn Jmc, .slice Jb1 Jbn1 Jbc1, .slice Jb2 Jbn2 Jbc2, .int .i64 Jbp, .int .i64 Jrg], .int .i64 left] w fun e w' => e = .returned (.int .i64 (szW left (gmN Jan1 Jan2 Jmn Jbn1 Jbn2))) ∧ Below w.heap.size w w' := by
 unfold gmN
 by_cases h1 : (Jan1 : Int) + Jan2 ≤ left
 rotate_left
 ·have E1 := Lib.hid (szV_no h1)
  rw [szW_no (by omega)]
  go_enter Try.func8, Try.ntmps8
  go_wp2_with fail
  refine (szP_any Ja1 Ja2 Jan1 Jac1 Jan2 Jac2 Jap left hl hl2 ha1 ha2 _).mono ?_
  rintro e u1 ⟨rfl, b1⟩
  rw [E1.out]
  have B1 := Lib.hid ((al1 w (.cells #[.int .i64 Jp, .int .i64 Js, .bool Jst, .bool Jsk, .bool Jre, .bool Jfe, .bool Jag, .int .i64 Jc, .int .i64 Jl, .slice Ja1 Jan1 Jac1, .slice Ja2 Jan2 Jac2, .int .i64 Jap, .slice Jm Jmn Jmc, .slice Jb1 Jbn1 Jbc1, .slice Jb2 Jbn2 Jbc2, .int .i64 Jbp, .int .i64 Jrg] 28)).trans (b1.mono (by simp)))
  clear b1
  go_wp2_with fail
  go_ret
  exact ⟨rfl, B1.out⟩
 have E1 := Lib.hid (szV_yes h1)
 by_cases h2 : (Jmn : Int) ≤ left - Jan1 - Jan2
 rotate_left
 ·have e2 : (if (Jmn : Int) ≤ left - Jan1 - Jan2 then left - Jan1 - Jan2 - Jmn else -1) = -1 := if_neg h2
  have E2 := Lib.hid e2
  have q0 : 0 ≤ left - Jan1 - Jan2 := by omega
  rw [szW_no (by omega)]
  clear e2
  go_enter Try.func8, Try.ntmps8
  go_wp2_with fail
  refine (szP_any Ja1 Ja2 Jan1 Jac1 Jan2 Jac2 Jap left hl hl2 ha1 ha2 _).mono ?_
  rintro e u1 ⟨rfl, b1⟩
  rw [E1.out]
  have A1 := Lib.hid ((gm_new Jp Js Jc Jl Jst Jsk Jre Jfe Jag Ja1 Ja2 Jan1 Jac1 Jan2 Jac2 Jap Jm Jmn Jmc Jb1 Jb2 Jbn1 Jbc1 Jbn2 Jbc2 Jbp Jrg w 28).below b1)
  have B1 := Lib.hid ((al1 w (.cells #[.int .i64 Jp, .int .i64 Js, .bool Jst, .bool Jsk, .bool Jre, .bool Jfe, .bool Jag, .int .i64 Jc, .int .i64 Jl, .slice Ja1 Jan1 Jac1, .slice Ja2 Jan2 Jac2, .int .i64 Jap, .slice Jm Jmn Jmc, .slice Jb1 Jbn1 Jbc1, .slice Jb2 Jbn2 Jbc2, .int .i64 Jbp, .int .i64 Jrg] 28)).trans (b1.mono (by simp)))
  clear b1
  obtain ⟨_, d0, d1, d2, d3, d4, d5, d6, d7, d8, d9, d10, d11, d12, d13, d14, d15, d16⟩ := A1.out
  go_wp2_with fail
  refine (szN_any Jm Jmc Jmn _ q0 (by omega) hm _).mono ?_
  rintro e w' ⟨rfl, rfl⟩
  rw [E2.out]
  go_wp2_with fail
  go_ret
  exact ⟨rfl, B1.out⟩
 have e2 : (if (Jmn : Int) ≤ left - Jan1 - Jan2 then left - Jan1 - Jan2 - Jmn else -1) = left - Jan1 - Jan2 - Jmn := if_pos h2
 have E2 := Lib.hid e2
 have q0 : 0 ≤ left - Jan1 - Jan2 := by omega
 have q1 : 0 ≤ left - Jan1 - Jan2 - Jmn := by omega
 obtain ⟨t, ht, hz⟩ : ∃ t, szV (left - Jan1 - Jan2 - Jmn) Jbn1 Jbn2 = t ∧ (szW left ((Jan1 : Int) + Jan2 + Jmn + Jbn1 + Jbn2) = if t < 0 then -1 else t) := by
  refine ⟨_, rfl, ?_⟩
  by_cases h3 : (Jbn1 : Int) + Jbn2 ≤ left - Jan1 - Jan2 - Jmn
  ·rw [szV_yes h3, szW_yes (by omega), if_neg (by omega)]
   omega
  ·rw [szV_no h3, szW_no (by omega)]
   rfl
 have E3 := Lib.hid ht
 obtain ⟨r, hr⟩ : ∃ r, (if t < 0 then (-1 : Int) else t) = r := ⟨_, rfl⟩
 rw [hz, hr]
 have HR := Lib.hid hr
 clear e2 ht hz hr
 go_enter Try.func8, Try.ntmps8
 go_wp2_with fail
 refine (szP_any Ja1 Ja2 Jan1 Jac1 Jan2 Jac2 Jap left hl hl2 ha1 ha2 _).mono ?_
 rintro e u1 ⟨rfl, b1⟩
 rw [E1.out]
 have A1 := Lib.hid ((gm_new Jp Js Jc Jl Jst Jsk Jre Jfe Jag Ja1 Ja2 Jan1 Jac1 Jan2 Jac2 Jap Jm Jmn Jmc Jb1 Jb2 Jbn1 Jbc1 Jbn2 Jbc2 Jbp Jrg w 28).below b1)
 have B1 := Lib.hid ((al1 w (.cells #[.int .i64 Jp, .int .i64 Js, .bool Jst, .bool Jsk, .bool Jre, .bool Jfe, .bool Jag, .int .i64 Jc, .int .i64 Jl, .slice Ja1 Jan1 Jac1, .slice Ja2 Jan2 Jac2, .int .i64 Jap, .slice Jm Jmn Jmc, .slice Jb1 Jbn1 Jbc1, .slice Jb2 Jbn2 Jbc2, .int .i64 Jbp, .int .i64 Jrg] 28)).trans (b1.mono (by simp)))
 clear b1
 obtain ⟨_, d0, d1, d2, d3, d4, d5, d6, d7, d8, d9, d10, d11, d12, d13, d14, d15, d16⟩ := A1.out
 go_wp2_with fail
 refine (szN_any Jm Jmc Jmn _ q0 (by omega) hm _).mono ?_
 rintro e w' ⟨rfl, rfl⟩
 rw [E2.out]
 go_wp2_with fail
 refine (szP_any Jb1 Jb2 Jbn1 Jbc1 Jbn2 Jbc2 Jbp _ q1 (by omega) hb1 hb2 _).mono ?_
 rintro e u3 ⟨rfl, b3⟩
 rw [E3.out]
 have B3 := Lib.hid (B1.out.trans (b3.mono B1.out.size))
 clear b3
 by_cases hlt : t < 0
 ·obtain rfl : r = -1 := by rw [← HR.out, if_pos hlt]
  go_wp2_with fail
  go_ret
  exact ⟨rfl, B3.out⟩
 ·obtain rfl : r = t := by rw [← HR.out, if_neg hlt]
  go_wp2_with fail
  go_ret
  exact ⟨rfl, B3.out⟩
theorem eqRulesG_same (p s c l : Int) (st sk re fe ag : Bool) (w : World) :
  Calls Try.prog 35 #[.agg #[.int .i64 p, .int .i64 s, .bool st, .bool sk, .bool re, .bool fe, .bool ag, .int .i64 c, .int .i64 l], .agg #[.int .i64 p, .int .i64 s, .bool st, .bool sk, .bool re, .bool fe, .bool ag, .int .i64 c, .int .i64 l]] w fun e w' => e = .returned (.bool true) ∧ Below w.heap.size w w' := by
 go_enter Try.func35, Try.ntmps35
 go_wp2
 go_ret
 exact ⟨rfl, (by repeat (first | exact Below.refl _ _ | assumption | (refine Below.drew ?_) | (refine Below.setCell ?_ (by first | omega | (simp; done) | (simp; omega)) _) | (refine Below.alloc ?_ (by first | omega | (simp; done) | (simp; omega)) _) | (refine Below.trans ?_ (Below.mono (by assumption) (by first | omega | (simp; done) | (simp; omega))))))⟩
theorem eqG_same (Jp Js Jc Jl : Int) (Jst Jsk Jre Jfe Jag : Bool) (Ja1 Ja2 : Option Addr) (Jan1 Jac1 Jan2 Jac2 : Nat) (Jap : Int) (Jm : Option Addr) (Jmn Jmc : Nat) (Jb1 Jb2 : Option Addr) (Jbn1 Jbc1 Jbn2 Jbc2 : Nat) (Jbp Jrg : Int) (hha1 hha2 : Option Addr) (hhac1 hhac2 : Nat) (hhm : Option Addr) (hhmc : Nat) (hhb1 hhb2 : Option Addr) (hhbc1 hhbc2 : Nat) (sx sy ms nx ny : List Int) (w : World) (h1 : GamR w Ja1 Ja2 Jan1 Jan2 Jm Jmn Jb1 Jb2 Jbn1 Jbn2 sx sy ms nx ny) (h2 : GamR w hha1 hha2 Jan1 Jan2 hhm Jmn hhb1 hhb2 Jbn1 Jbn2 sx sy ms nx ny) :
  Calls Try.prog 12 #[.agg #[.int .i64 Jp, .int .i64 Js, .bool Jst, .bool Jsk, .bool Jre, .bool Jfe, .bool Jag, .int .i64 Jc, .int .i64 Jl, .slice Ja1 Jan1 Jac1, .slice Ja2 Jan2 Jac2, .int .i64 Jap, .slice Jm Jmn Jmc, .slice Jb1 Jbn1 Jbc1, .slice Jb2 Jbn2 Jbc2, .int .i64 Jbp, .int .i64 Jrg], .agg #[.int .i64 Jp, .int .i64 Js, .bool Jst, .bool Jsk, .bool Jre, .bool Jfe, .bool Jag, .int .i64 Jc, .int .i64 Jl, .slice hha1 Jan1 hhac1, .slice hha2 Jan2 hhac2, .int .i64 Jap, .slice hhm Jmn hhmc, .slice hhb1 Jbn1 hhbc1, .slice hhb2 Jbn2 hhbc2, .int .i64 Jbp, .int .i64 Jrg]] w fun e w' => e = .returned (.bool true) ∧ Below w.heap.size w w' := by
 have HS := Lib.hid (tg2_new Jp Js Jc Jl Jst Jsk Jre Jfe Jag Ja1 Ja2 Jan1 Jac1 Jan2 Jac2 Jap Jm Jmn Jmc Jb1 Jb2 Jbn1 Jbc1 Jbn2 Jbc2 Jbp Jrg Jp Js Jc Jl Jst Jsk Jre Jfe Jag hha1 hha2 Jan1 hhac1 Jan2 hhac2 Jap hhm Jmn hhmc hhb1 hhb2 Jbn1 hhbc1 Jbn2 hhbc2 Jbp Jrg w 34)
 have H1 := Lib.hid h1
 have H2 := Lib.hid h2
 clear h1 h2
 go_enter Try.func12, Try.ntmps12
 go_wp2_with fail
 refine (eqRulesG_same Jp Js Jc Jl Jst Jsk Jre Jfe Jag _).mono ?_
 rintro e u1 ⟨rfl, hb⟩
 have HS := Lib.hid (HS.out.below hb)
 clear hb
 obtain ⟨⟨_, d0, d1, d2, d3, d4, d5, d6, d7, d8, d9, d10, d11, d12, d13, d14, d15, d16⟩, ⟨_, e0, e1, e2, e3, e4, e5, e6, e7, e8, e9, e10, e11, e12, e13, e14, e15, e16⟩, _⟩ := HS.out
 go_wp2_with fail
 refine (eqP_same Ja1 Ja2 hha1 hha2 Jan1 Jan2 Jac1 Jac2 hhac1 hhac2 Jap sx sy _ (H1.out.s.below HS.out.2.2) (H2.out.s.below HS.out.2.2)).mono ?_
 rintro e u2 ⟨rfl, hb⟩
 clear d0 e0 d1 e1 d2 e2 d3 e3 d4 e4 d5 e5 d6 e6 d7 e7 d8 e8 d9 e9 d10 e10 d11 e11 d12 e12 d13 e13 d14 e14 d15 e15 d16 e16
 have HS := Lib.hid (HS.out.below hb)
 clear hb
 obtain ⟨⟨_, d0, d1, d2, d3, d4, d5, d6, d7, d8, d9, d10, d11, d12, d13, d14, d15, d16⟩, ⟨_, e0, e1, e2, e3, e4, e5, e6, e7, e8, e9, e10, e11, e12, e13, e14, e15, e16⟩, _⟩ := HS.out
 go_wp2_with fail
 refine (eqN_same Jm hhm Jmc hhmc Jmn ms _ H1.out.lm (H1.out.m.below HS.out.2.2) (H2.out.m.below HS.out.2.2)).mono ?_
 rintro e u3 ⟨rfl, hb⟩
 clear d0 e0 d1 e1 d2 e2 d3 e3 d4 e4 d5 e5 d6 e6 d7 e7 d8 e8 d9 e9 d10 e10 d11 e11 d12 e12 d13 e13 d14 e14 d15 e15 d16 e16
 have HS := Lib.hid (HS.out.below hb)
 clear hb
 obtain ⟨⟨_, d0, d1, d2, d3, d4, d5, d6, d7, d8, d9, d10, d11, d12, d13, d14, d15, d16⟩, ⟨_, e0, e1, e2, e3, e4, e5, e6, e7, e8, e9, e10, e11, e12, e13, e14, e15, e16⟩, _⟩ := HS.out
 go_wp2_with fail
 refine (eqP_same Jb1 Jb2 hhb1 hhb2 Jbn1 Jbn2 Jbc1 Jbc2 hhbc1 hhbc2 Jbp nx ny _ (H1.out.n.below HS.out.2.2) (H2.out.n.below HS.out.2.2)).mono ?_
 rintro e u4 ⟨rfl, hb⟩
 clear d0 e0 d1 e1 d2 e2 d3 e3 d4 e4 d5 e5 d6 e6 d7 e7 d8 e8 d9 e9 d10 e10 d11 e11 d12 e12 d13 e13 d14 e14 d15 e15 d16 e16
 have HS := Lib.hid (HS.out.below hb)
 clear hb
 obtain ⟨⟨_, d0, d1, d2, d3, d4, d5, d6, d7, d8, d9, d10, d11, d12, d13, d14, d15, d16⟩, ⟨_, e0, e1, e2, e3, e4, e5, e6, e7, e8, e9, e10, e11, e12, e13, e14, e15, e16⟩, _⟩ := HS.out
 go_wp2_with fail
 go_ret
 exact ⟨rfl, HS.out.2.2⟩
def TgAt (u : World) (A : Nat) (p s c l : Int) (st sk re fe ag : Bool) (an1 an2 : Nat) (ap : Int) (mn bn1 bn2 : Nat) (bp rg : Int) (sx sy ms nx ny : List Int) : Prop :=
 ∃ g1 g2 g3 g4 g5 : Nat, GmAt u A p s c l st sk re fe ag (some ⟨g1, 0, none⟩) (some ⟨g2, 0, none⟩) an1 an1 an2 an2 ap (some ⟨g3, 0, none⟩) mn mn (some ⟨g4, 0, none⟩) (some ⟨g5, 0, none⟩) bn1 bn1 bn2 bn2 bp rg ∧ GamR u (some ⟨g1, 0, none⟩) (some ⟨g2, 0, none⟩) an1 an2 (some ⟨g3, 0, none⟩) mn (some ⟨g4, 0, none⟩) (some ⟨g5, 0, none⟩) bn1 bn2 sx sy ms nx ny
theorem TgAt.below {u v : World} {A : Nat} {p s c l : Int} {st sk re fe ag : Bool} {an1 an2 : Nat} {ap : Int} {mn bn1 bn2 : Nat} {bp rg : Int} {sx sy ms nx ny : List Int} (h : TgAt u A p s c l st sk re fe ag an1 an2 ap mn bn1 bn2 bp rg sx sy ms nx ny) (k : Below u.heap.size u v) : TgAt v A p s c l st sk re fe ag an1 an2 ap mn bn1 bn2 bp rg sx sy ms nx ny := by
 obtain ⟨g1, g2, g3, g4, g5, h1, h2⟩ := h
 exact ⟨g1, g2, g3, g4, g5, h1.below k, h2.below k⟩
theorem gm_of_rg {u : World} {b : Nat} {Jp Js Jc Jl : Int} {Jst Jsk Jre Jfe Jag : Bool} {Ja1 Ja2 : Option Addr} {Jan1 Jac1 Jan2 Jac2 : Nat} {Jap : Int} {Jm : Option Addr} {Jmn Jmc : Nat} {Jb1 Jb2 : Option Addr} {Jbn1 Jbc1 Jbn2 Jbc2 : Nat} {Jbp Jrg : Int} (hb : b < u.heap.size) (h : u.rangeAt b 0 [.int .i64 Jp, .int .i64 Js, .bool Jst, .bool Jsk, .bool Jre, .bool Jfe, .bool Jag, .int .i64 Jc, .int .i64 Jl, .slice Ja1 Jan1 Jac1, .slice Ja2 Jan2 Jac2, .int .i64 Jap, .slice Jm Jmn Jmc, .slice Jb1 Jbn1 Jbc1, .slice Jb2 Jbn2 Jbc2, .int .i64 Jbp, .int .i64 Jrg]) : GmAt u b Jp Js Jc Jl Jst Jsk Jre Jfe Jag Ja1 Ja2 Jan1 Jac1 Jan2 Jac2 Jap Jm Jmn Jmc Jb1 Jb2 Jbn1 Jbc1 Jbn2 Jbc2 Jbp Jrg :=
 ⟨hb, h 0 _ rfl, h 1 _ rfl, h 2 _ rfl, h 3 _ rfl, h 4 _ rfl, h 5 _ rfl, h 6 _ rfl, h 7 _ rfl, h 8 _ rfl, h 9 _ rfl, h 10 _ rfl, h 11 _ rfl, h 12 _ rfl, h 13 _ rfl, h 14 _ rfl, h 15 _ rfl, h 16 _ rfl⟩
theorem there17 (v : World) (T : TypeId) : (v.alloc (.cells #[.int .i64 0, .int .i64 0, .bool false, .bool false, .bool false, .bool false, .bool false, .int .i64 0, .int .i64 0, .slice none 0 0, .slice none 0 0, .int .i64 0, .slice none 0 0, .slice none 0 0, .slice none 0 0, .int .i64 0, .int .i64 0] T)).there v.heap.size 0 17 := (g17_new v T).there
theorem tg_stored {v : World} {B : Nat} {p s c l : Int} {st sk re fe ag : Bool} {g1 g2 g3 g4 g5 an1 an2 : Nat} {ap : Int} {mn bn1 bn2 : Nat} {bp rg : Int} {sx sy ms nx ny : List Int} (T : TypeId)
  (h : GamO v B (some ⟨g1, 0, none⟩) (some ⟨g2, 0, none⟩) g1 g2 an1 an2 (some ⟨g3, 0, none⟩) g3 mn (some ⟨g4, 0, none⟩) (some ⟨g5, 0, none⟩) g4 g5 bn1 bn2 sx sy ms nx ny) :
  TgAt ((v.alloc (.cells #[.int .i64 0, .int .i64 0, .bool false, .bool false, .bool false, .bool false, .bool false, .int .i64 0, .int .i64 0, .slice none 0 0, .slice none 0 0, .int .i64 0, .slice none 0 0, .slice none 0 0, .slice none 0 0, .int .i64 0, .int .i64 0] T)).setCells v.heap.size 0 [.int .i64 p, .int .i64 s, .bool st, .bool sk, .bool re, .bool fe, .bool ag, .int .i64 c, .int .i64 l, .slice (some ⟨g1, 0, none⟩) an1 an1, .slice (some ⟨g2, 0, none⟩) an2 an2, .int .i64 ap, .slice (some ⟨g3, 0, none⟩) mn mn, .slice (some ⟨g4, 0, none⟩) bn1 bn1, .slice (some ⟨g5, 0, none⟩) bn2 bn2, .int .i64 bp, .int .i64 rg]) v.heap.size p s c l st sk re fe ag an1 an2 ap mn bn1 bn2 bp rg sx sy ms nx ny :=
 ⟨g1, g2, g3, g4, g5, gm_of_rg (by rw [size_scg]; simp) (World.rangeAt_setCells_same _ _ 0 [.int .i64 p, .int .i64 s, .bool st, .bool sk, .bool re, .bool fe, .bool ag, .int .i64 c, .int .i64 l, .slice (some ⟨g1, 0, none⟩) an1 an1, .slice (some ⟨g2, 0, none⟩) an2 an2, .int .i64 ap, .slice (some ⟨g3, 0, none⟩) mn mn, .slice (some ⟨g4, 0, none⟩) bn1 bn1, .slice (some ⟨g5, 0, none⟩) bn2 bn2, .int .i64 bp, .int .i64 rg] (there17 v T)), h.r.below (below_scg v.heap.size (Nat.le_refl _) _ 0 (al1 v _))⟩
theorem below_stored (v : World) (T : TypeId) (vs : List Value) : Below v.heap.size v ((v.alloc (.cells #[.int .i64 0, .int .i64 0, .bool false, .bool false, .bool false, .bool false, .bool false, .int .i64 0, .int .i64 0, .slice none 0 0, .slice none 0 0, .int .i64 0, .slice none 0 0, .slice none 0 0, .slice none 0 0, .int .i64 0, .int .i64 0] T)).setCells v.heap.size 0 vs) := below_scg v.heap.size (Nat.le_refl _) _ 0 (al1 v _)
/- Game5 -/
structure GamD (w : World) (k1 k2 k3 k4 k5 : Nat) : Prop where
 l1 : k1 < w.heap.size
 l2 : k2 < w.heap.size
 l3 : k3 < w.heap.size
 l4 : k4 < w.heap.size
 l5 : k5 < w.heap.size
 n13 : k1 ≠ k3
 n23 : k2 ≠ k3
 n14 : k1 ≠ k4
 n24 : k2 ≠ k4
 n15 : k1 ≠ k5
 n25 : k2 ≠ k5
 n34 : k3 ≠ k4
 n35 : k3 ≠ k5
theorem GmAt.but2 {u v : World} {b c d : Nat} {Jp Js Jc Jl : Int} {Jst Jsk Jre Jfe Jag : Bool} {Ja1 Ja2 : Option Addr} {Jan1 Jac1 Jan2 Jac2 : Nat} {Jap : Int} {Jm : Option Addr} {Jmn Jmc : Nat} {Jb1 Jb2 : Option Addr} {Jbn1 Jbc1 Jbn2 Jbc2 : Nat} {Jbp Jrg : Int} (h : GmAt u b Jp Js Jc Jl Jst Jsk Jre Jfe Jag Ja1 Ja2 Jan1 Jac1 Jan2 Jac2 Jap Jm Jmn Jmc Jb1 Jb2 Jbn1 Jbc1 Jbn2 Jbc2 Jbp Jrg) (k : But2 c d u v) (hc : b ≠ c) (hd : b ≠ d) : GmAt v b Jp Js Jc Jl Jst Jsk Jre Jfe Jag Ja1 Ja2 Jan1 Jac1 Jan2 Jac2 Jap Jm Jmn Jmc Jb1 Jb2 Jbn1 Jbc1 Jbn2 Jbc2 Jbp Jrg := by
 obtain ⟨hb, h⟩ := h
 have e := fun o => k.cell (o := o) hb hc hd
 exact ⟨Nat.lt_of_lt_of_le hb k.size, by rw [e, e, e, e, e, e, e, e, e, e, e, e, e, e, e, e, e]; exact h⟩
structure But5 (k1 k2 k3 k4 k5 : Nat) (w w' : World) : Prop where
 os : w'.os = w.os
 tape : w'.tape = w.tape
 output : w'.output = w.output
 size : w.heap.size ≤ w'.heap.size
 block : ∀ k, k < w.heap.size → k ≠ k1 → k ≠ k2 → k ≠ k3 → k ≠ k4 → k ≠ k5 → w'.heap[k]? = w.heap[k]?
section
variable {k1 k2 k3 k4 k5 : Nat} {w u v : World}
theorem But5.of_below (h : Below w.heap.size w u) : But5 k1 k2 k3 k4 k5 w u := ⟨h.os, h.tape, h.output, h.size, fun k hk _ _ _ _ _ => h.block k hk⟩
theorem But5.of12 (h : But2 k1 k2 w u) : But5 k1 k2 k3 k4 k5 w u := ⟨h.os, h.tape, h.output, h.size, fun k hk a b _ _ _ => h.block k hk a b⟩
theorem But5.of3 (h : But k3 w u) : But5 k1 k2 k3 k4 k5 w u := ⟨h.os, h.tape, h.output, h.size, fun k hk _ _ a _ _ => h.block k hk a⟩
theorem But5.of45 (h : But2 k4 k5 w u) : But5 k1 k2 k3 k4 k5 w u := ⟨h.os, h.tape, h.output, h.size, fun k hk _ _ _ a b => h.block k hk a b⟩
theorem But5.trans (h : But5 k1 k2 k3 k4 k5 w u) (k : But5 k1 k2 k3 k4 k5 u v) : But5 k1 k2 k3 k4 k5 w v :=
 ⟨k.os.trans h.os, k.tape.trans h.tape, k.output.trans h.output, Nat.le_trans h.size k.size, fun i hi a b c d e => (k.block i (Nat.lt_of_lt_of_le hi h.size) a b c d e).trans (h.block i hi a b c d e)⟩
theorem But5.below {B : Nat} (h : But5 k1 k2 k3 k4 k5 w u) (hB : B ≤ w.heap.size) (a1 : B ≤ k1) (a2 : B ≤ k2) (a3 : B ≤ k3) (a4 : B ≤ k4) (a5 : B ≤ k5) : Below B w u :=
 ⟨h.os, h.tape, h.output, h.size, fun i hi => h.block i (by omega) (by omega) (by omega) (by omega) (by omega) (by omega)⟩
theorem But5.cell (h : But5 k1 k2 k3 k4 k5 w u) {c o : Nat} (hc : c < w.heap.size) (a1 : c ≠ k1) (a2 : c ≠ k2) (a3 : c ≠ k3) (a4 : c ≠ k4) (a5 : c ≠ k5) : u.cell? ⟨c, o, none⟩ = w.cell? ⟨c, o, none⟩ := World.cell?_of_block (w := w) (h.block c hc a1 a2 a3 a4 a5)
theorem GmAt.but5 {b : Nat} {Jp Js Jc Jl : Int} {Jst Jsk Jre Jfe Jag : Bool} {Ja1 Ja2 : Option Addr} {Jan1 Jac1 Jan2 Jac2 : Nat} {Jap : Int} {Jm : Option Addr} {Jmn Jmc : Nat} {Jb1 Jb2 : Option Addr} {Jbn1 Jbc1 Jbn2 Jbc2 : Nat} {Jbp Jrg : Int} (h : GmAt u b Jp Js Jc Jl Jst Jsk Jre Jfe Jag Ja1 Ja2 Jan1 Jac1 Jan2 Jac2 Jap Jm Jmn Jmc Jb1 Jb2 Jbn1 Jbc1 Jbn2 Jbc2 Jbp Jrg) (k : But5 k1 k2 k3 k4 k5 u v) (a1 : b ≠ k1) (a2 : b ≠ k2) (a3 : b ≠ k3) (a4 : b ≠ k4) (a5 : b ≠ k5) : GmAt v b Jp Js Jc Jl Jst Jsk Jre Jfe Jag Ja1 Ja2 Jan1 Jac1 Jan2 Jac2 Jap Jm Jmn Jmc Jb1 Jb2 Jbn1 Jbc1 Jbn2 Jbc2 Jbp Jrg := by
 obtain ⟨hb, h⟩ := h
 have e := fun o => k.cell (o := o) hb a1 a2 a3 a4 a5
 exact ⟨Nat.lt_of_lt_of_le hb k.size, by rw [e, e, e, e, e, e, e, e, e, e, e, e, e, e, e, e, e]; exact h⟩
end
theorem markPw_any (B b1 b2 : Nat) (a1 a2 : Option Addr) (n1 n2 c1 c2 k : Nat) (pl : Int) (xs ys : List Int) (w : World) (h : PosO w B a1 a2 b1 b2 n1 n2 xs ys) (hB : B ≤ w.heap.size) (hlt : b1 < w.heap.size ∧ b2 < w.heap.size) (hk2 : k ≤ 10000000) (hn : n1 ≤ 10000000) :
  Calls Try.prog 19 #[.agg #[.slice a1 n1 c1, .slice a2 n2 c2, .int .i64 pl], .int .i64 k] w (MarkPP B b1 b2 a1 a2 n1 n2 k w) := by
 have H := Lib.hid h
 obtain ⟨hl1, hl2⟩ := hlt
 clear h
 go_enter Try.func19, Try.ntmps19
 go_wp2_with fail
 refine (marksN_any B b1 a1 c1 n1 k xs _ H.out.l1 (H.out.o1.alloc _) (by omega)).mono ?_
 rintro e u ⟨rfl, b1', o1⟩
 have hs1 := b1'.size
 simp at hs1
 have x1 := fun o => b1'.cell (c := w.heap.size) (o := o) (by simp) (by omega)
 have O2 := Lib.hid ((H.out.o2.alloc _).but b1' (by have := H.out.ne; omega))
 have O1 := Lib.hid o1
 have B1 := Lib.hid b1'
 clear o1 b1'
 go_wp2_with fail
 refine (marksN_any B b2 a2 c2 n2 (k + n1) ys _ H.out.l2 O2.out (by omega)).mono ?_
 rintro e u2 ⟨rfl, b2', o2⟩
 have O1' := Lib.hid (O1.out.but b2' H.out.ne)
 have O2' := Lib.hid o2
 have B2 := Lib.hid b2'
 clear b2' o2
 go_wp2_with fail
 go_ret
 exact ⟨rfl, ((But2.of_below ((Below.refl _ _).alloc (Nat.le_refl _) _)).trans (.of_l B1.out)).trans (.of_r B2.out), O1'.out, O2'.out, H.out.ne, marksN_len _ _, marksN_len _ _⟩
theorem markG_any (B k1 k2 k3 k4 k5 k : Nat) (Jp Js Jc Jl : Int) (Jst Jsk Jre Jfe Jag : Bool) (Ja1 Ja2 : Option Addr) (Jan1 Jac1 Jan2 Jac2 : Nat) (Jap : Int) (Jm : Option Addr) (Jmn Jmc : Nat) (Jb1 Jb2 : Option Addr) (Jbn1 Jbc1 Jbn2 Jbc2 : Nat) (Jbp Jrg : Int) (sx sy ms nx ny : List Int) (w : World) (h : GamO w B Ja1 Ja2 k1 k2 Jan1 Jan2 Jm k3 Jmn Jb1 Jb2 k4 k5 Jbn1 Jbn2 sx sy ms nx ny) (hd : GamD w k1 k2 k3 k4 k5) (hB : B ≤ w.heap.size) (hk : k ≤ 1000) (ht : Jan1 + Jan2 + Jmn + Jbn1 + Jbn2 ≤ 9000000) :
  Calls Try.prog 20 #[.agg #[.int .i64 Jp, .int .i64 Js, .bool Jst, .bool Jsk, .bool Jre, .bool Jfe, .bool Jag, .int .i64 Jc, .int .i64 Jl, .slice Ja1 Jan1 Jac1, .slice Ja2 Jan2 Jac2, .int .i64 Jap, .slice Jm Jmn Jmc, .slice Jb1 Jbn1 Jbc1, .slice Jb2 Jbn2 Jbc2, .int .i64 Jbp, .int .i64 Jrg], .int .i64 k] w fun e w' => e = .returned (.int .i64 ((k + Jan1 + Jan2 + Jmn + Jbn1 + Jbn2 : Nat) : Int)) ∧ But5 k1 k2 k3 k4 k5 w w' ∧ GamO w' B Ja1 Ja2 k1 k2 Jan1 Jan2 Jm k3 Jmn Jb1 Jb2 k4 k5 Jbn1 Jbn2 (marksN k Jan1) (marksN (k + Jan1) Jan2) (marksN (k + Jan1 + Jan2) Jmn) (marksN (k + Jan1 + Jan2 + Jmn) Jbn1) (marksN (k + Jan1 + Jan2 + Jmn + Jbn1) Jbn2) := by
 have H := Lib.hid h
 have HD := Lib.hid hd
 clear h hd
 go_enter Try.func20, Try.ntmps20
 go_wp2_with fail
 have b0 := al1 w (.cells #[.int .i64 Jp, .int .i64 Js, .bool Jst, .bool Jsk, .bool Jre, .bool Jfe, .bool Jag, .int .i64 Jc, .int .i64 Jl, .slice Ja1 Jan1 Jac1, .slice Ja2 Jan2 Jac2, .int .i64 Jap, .slice Jm Jmn Jmc, .slice Jb1 Jbn1 Jbc1, .slice Jb2 Jbn2 Jbc2, .int .i64 Jbp, .int .i64 Jrg] 34)
 have s0 := b0.size
 refine (markPw_any B k1 k2 Ja1 Ja2 Jan1 Jan2 Jac1 Jac2 k Jap sx sy _ (H.out.s.below b0) (Nat.le_trans hB s0) ⟨Nat.lt_of_lt_of_le HD.out.l1 s0, Nat.lt_of_lt_of_le HD.out.l2 s0⟩ (by omega) (by omega)).mono ?_
 rintro e u1 ⟨rfl, b1, o1⟩
 have A1 := Lib.hid ((gm_new Jp Js Jc Jl Jst Jsk Jre Jfe Jag Ja1 Ja2 Jan1 Jac1 Jan2 Jac2 Jap Jm Jmn Jmc Jb1 Jb2 Jbn1 Jbc1 Jbn2 Jbc2 Jbp Jrg w 34).but2 b1 (by have := HD.out.l1; omega) (by have := HD.out.l2; omega))
 have O1 := Lib.hid o1
 have M1 := Lib.hid ((H.out.m.below b0).but2 b1 (by have := HD.out.n13; omega) (by have := HD.out.n23; omega))
 have N1 := Lib.hid ((H.out.n.below b0).but2 b1 (by have := HD.out.n14; omega) (by have := HD.out.n15; omega) (by have := HD.out.n24; omega) (by have := HD.out.n25; omega))
 have B1 : Hid (But5 k1 k2 k3 k4 k5 w u1) := Lib.hid ((But5.of_below b0).trans (But5.of12 b1))
 have L1 := Lib.hid (Nat.le_trans s0 b1.size)
 clear b1 o1 b0 s0
 obtain ⟨_, d0, d1, d2, d3, d4, d5, d6, d7, d8, d9, d10, d11, d12, d13, d14, d15, d16⟩ := A1.out
 go_wp2_with fail
 refine (marksN_any B k3 Jm Jmc Jmn (k + Jan1 + Jan2) ms _ H.out.lm M1.out (by omega)).mono ?_
 rintro e u2 ⟨rfl, b2, o2⟩
 clear d0 d1 d2 d3 d4 d5 d6 d7 d8 d9 d10 d11 d12 d13 d14 d15 d16
 have A2 := Lib.hid (A1.out.but b2 (by have := HD.out.l3; omega))
 have O2 := Lib.hid (O1.out.but b2 (by have := HD.out.n13; omega) (by have := HD.out.n23; omega))
 have M2 := Lib.hid o2
 have N2 := Lib.hid (N1.out.but b2 (by have := HD.out.n34; omega) (by have := HD.out.n35; omega))
 have B2 : Hid (But5 k1 k2 k3 k4 k5 w u2) := Lib.hid (B1.out.trans (But5.of3 b2))
 have L2 := Lib.hid (Nat.le_trans L1.out b2.size)
 clear b2 o2 A1 O1 M1 N1 B1
 obtain ⟨_, d0, d1, d2, d3, d4, d5, d6, d7, d8, d9, d10, d11, d12, d13, d14, d15, d16⟩ := A2.out
 go_wp2_with fail
 refine (markPw_any B k4 k5 Jb1 Jb2 Jbn1 Jbn2 Jbc1 Jbc2 (k + Jan1 + Jan2 + Jmn) Jbp nx ny _ N2.out (Nat.le_trans hB L2.out) ⟨Nat.lt_of_lt_of_le HD.out.l4 L2.out, Nat.lt_of_lt_of_le HD.out.l5 L2.out⟩ (by omega) (by omega)).mono ?_
 rintro e u3 ⟨rfl, b3, o3⟩
 clear d0 d1 d2 d3 d4 d5 d6 d7 d8 d9 d10 d11 d12 d13 d14 d15 d16
 have O3 := Lib.hid (O2.out.but2 b3 (by have := HD.out.n14; omega) (by have := HD.out.n24; omega) (by have := HD.out.n15; omega) (by have := HD.out.n25; omega))
 have M3 := Lib.hid (M2.out.but2 b3 (by have := HD.out.n34; omega) (by have := HD.out.n35; omega))
 have N3 := Lib.hid o3
 have B3 : Hid (But5 k1 k2 k3 k4 k5 w u3) := Lib.hid (B2.out.trans (But5.of45 b3))
 clear b3 o3
 go_wp2_with fail
 go_ret
 exact ⟨rfl, B3.out, O3.out, M3.out, marksN_len _ _, N3.out⟩
/- Game6 -/
theorem RuAt.range9 {u : World} {b : Nat} {p s c l : Int} {st sk re fe ag : Bool} (h : RuAt u b p s c l st sk re fe ag) : u.rangeAt b 0 [.int .i64 p, .int .i64 s, .bool st, .bool sk, .bool re, .bool fe, .bool ag, .int .i64 c, .int .i64 l] := by
 obtain ⟨_, m0, m1, m2, m3, m4, m5, m6, m7, m8⟩ := h
 intro j x hj
 match j, hj with
 | 0, hj => cases hj; exact m0
 | 1, hj => cases hj; exact m1
 | 2, hj => cases hj; exact m2
 | 3, hj => cases hj; exact m3
 | 4, hj => cases hj; exact m4
 | 5, hj => cases hj; exact m5
 | 6, hj => cases hj; exact m6
 | 7, hj => cases hj; exact m7
 | 8, hj => cases hj; exact m8
 | n + 9, hj => simp at hj
theorem PoAt.range3 {u : World} {b : Nat} {q1 q2 : Option Addr} {qn1 qc1 qn2 qc2 : Nat} {qp : Int} (h : PoAt u b q1 q2 qn1 qc1 qn2 qc2 qp) : u.rangeAt b 0 [.slice q1 qn1 qc1, .slice q2 qn2 qc2, .int .i64 qp] := by
 obtain ⟨_, m0, m1, m2⟩ := h
 intro j x hj
 match j, hj with
 | 0, hj => cases hj; exact m0
 | 1, hj => cases hj; exact m1
 | 2, hj => cases hj; exact m2
 | n + 3, hj => simp at hj
structure NewR (w w' : World) (g1 g2 g4 g5 qn1 qn2 : Nat) (xs ys : List Int) : Prop where
 s : PosO w' w.heap.size (some ⟨g1, 0, none⟩) (some ⟨g2, 0, none⟩) g1 g2 qn1 qn2 xs ys
 n : PosO w' w.heap.size (some ⟨g4, 0, none⟩) (some ⟨g5, 0, none⟩) g4 g5 qn1 qn2 xs ys
 l1 : g1 < w'.heap.size
 l2 : g2 < w'.heap.size
 l4 : g4 < w'.heap.size
 l5 : g5 < w'.heap.size
 n14 : g1 ≠ g4
 n15 : g1 ≠ g5
 n24 : g2 ≠ g4
 n25 : g2 ≠ g5
 be : Below w.heap.size w w'
theorem NewR.sc {w u : World} {g1 g2 g4 g5 qn1 qn2 : Nat} {xs ys : List Int} (z : Nat) (vs : List Value) (o : Nat) (h : NewR w u g1 g2 g4 g5 qn1 qn2 xs ys) (hz : w.heap.size ≤ z) (m1 : g1 ≠ z) (m2 : g2 ≠ z) (m4 : g4 ≠ z) (m5 : g5 ≠ z) : NewR w (u.setCells z o vs) g1 g2 g4 g5 qn1 qn2 xs ys := by
 have k := but_scg (a := u) z vs o (But.refl z u)
 have e := size_scg z vs o u
 exact ⟨h.s.but k m1 m2, h.n.but k m4 m5, e ▸ h.l1, e ▸ h.l2, e ▸ h.l4, e ▸ h.l5, h.n14, h.n15, h.n24, h.n25, below_scg z hz vs o h.be⟩
theorem there_of {u v : World} {z n : Nat} (h : u.there z 0 n) (hz : z < u.heap.size) (k : Below u.heap.size u v) : v.there z 0 n := fun j hj => by
 obtain ⟨h1, h2⟩ := h j hj
 exact ⟨by rw [k.cell (p := ⟨z, 0 + j, none⟩) hz]; exact h1, (k.frozen (p := ⟨z, 0 + j, none⟩) hz).trans h2⟩
/- Off8 -/
def Po9 (u : World) (d : Nat) (p1 p2 : Option Addr) (pn1 pc1 pn2 pc2 : Nat) (pp : Int) : Prop := d < u.heap.size ∧ u.cell? ⟨d, 9, none⟩ = some (.slice p1 pn1 pc1) ∧ u.cell? ⟨d, 10, none⟩ = some (.slice p2 pn2 pc2) ∧ u.cell? ⟨d, 11, none⟩ = some (.int .i64 pp)
def PoO (u : World) (d o : Nat) (p1 p2 : Option Addr) (pn1 pc1 pn2 pc2 : Nat) (pp : Int) : Prop := d < u.heap.size ∧ u.cell? ⟨d, o, none⟩ = some (.slice p1 pn1 pc1) ∧ u.cell? ⟨d, o + 1, none⟩ = some (.slice p2 pn2 pc2) ∧ u.cell? ⟨d, o + 2, none⟩ = some (.int .i64 pp)
section
variable {u v : World} {d o : Nat} {p1 p2 : Option Addr} {pn1 pc1 pn2 pc2 : Nat} {pp : Int}
theorem Po9.below (h : Po9 u d p1 p2 pn1 pc1 pn2 pc2 pp) (k : Below u.heap.size u v) : Po9 v d p1 p2 pn1 pc1 pn2 pc2 pp := by
 obtain ⟨hb, h⟩ := h
 have e := fun o => k.cell (p := ⟨d, o, none⟩) hb
 exact ⟨Nat.lt_of_lt_of_le hb k.size, by rw [e, e, e]; exact h⟩
theorem Po9.but {g : Nat} (h : Po9 u d p1 p2 pn1 pc1 pn2 pc2 pp) (k : But g u v) (hg : d ≠ g) : Po9 v d p1 p2 pn1 pc1 pn2 pc2 pp := by
 obtain ⟨hb, h⟩ := h
 have e := fun o => k.cell (o := o) hb hg
 exact ⟨Nat.lt_of_lt_of_le hb k.size, by rw [e, e, e]; exact h⟩
theorem PoO.below (h : PoO u d o p1 p2 pn1 pc1 pn2 pc2 pp) (k : Below u.heap.size u v) : PoO v d o p1 p2 pn1 pc1 pn2 pc2 pp := by
 obtain ⟨hb, h⟩ := h
 have e := fun o => k.cell (p := ⟨d, o, none⟩) hb
 exact ⟨Nat.lt_of_lt_of_le hb k.size, by rw [e, e, e]; exact h⟩
theorem Po9.drew (h : Po9 u d p1 p2 pn1 pc1 pn2 pc2 pp) : Po9 u.drew d p1 p2 pn1 pc1 pn2 pc2 pp := h
theorem Po9.set3 {z : Nat} (h : Po9 u d p1 p2 pn1 pc1 pn2 pc2 pp) (hz : d ≠ z) (x y t : Value) : Po9 (((u.setCell ⟨z, 0, none⟩ x).setCell ⟨z, 1, none⟩ y).setCell ⟨z, 2, none⟩ t) d p1 p2 pn1 pc1 pn2 pc2 pp :=
 h.but ((((But.refl z u).setCell (p := ⟨z, 0, none⟩) rfl x).setCell (p := ⟨z, 1, none⟩) rfl y).setCell (p := ⟨z, 2, none⟩) rfl t) hz
theorem GmAt.p9 {u : World} {b : Nat} {Jp Js Jc Jl : Int} {Jst Jsk Jre Jfe Jag : Bool} {Ja1 Ja2 : Option Addr} {Jan1 Jac1 Jan2 Jac2 : Nat} {Jap : Int} {Jm : Option Addr} {Jmn Jmc : Nat} {Jb1 Jb2 : Option Addr} {Jbn1 Jbc1 Jbn2 Jbc2 : Nat} {Jbp Jrg : Int} (h : GmAt u b Jp Js Jc Jl Jst Jsk Jre Jfe Jag Ja1 Ja2 Jan1 Jac1 Jan2 Jac2 Jap Jm Jmn Jmc Jb1 Jb2 Jbn1 Jbc1 Jbn2 Jbc2 Jbp Jrg) : Po9 u b Ja1 Ja2 Jan1 Jac1 Jan2 Jac2 Jap := h.s9
theorem GmAt.ru {u : World} {b : Nat} {Jp Js Jc Jl : Int} {Jst Jsk Jre Jfe Jag : Bool} {Ja1 Ja2 : Option Addr} {Jan1 Jac1 Jan2 Jac2 : Nat} {Jap : Int} {Jm : Option Addr} {Jmn Jmc : Nat} {Jb1 Jb2 : Option Addr} {Jbn1 Jbc1 Jbn2 Jbc2 : Nat} {Jbp Jrg : Int} (h : GmAt u b Jp Js Jc Jl Jst Jsk Jre Jfe Jag Ja1 Ja2 Jan1 Jac1 Jan2 Jac2 Jap Jm Jmn Jmc Jb1 Jb2 Jbn1 Jbc1 Jbn2 Jbc2 Jbp Jrg) : RuAt u b Jp Js Jc Jl Jst Jsk Jre Jfe Jag := by
 obtain ⟨h0, m0, m1, m2, m3, m4, m5, m6, m7, m8, -⟩ := h
 exact ⟨h0, m0, m1, m2, m3, m4, m5, m6, m7, m8⟩
end
theorem l04Own9_any (p1 p2 : Option Addr) (pn1 pc1 pn2 pc2 : Nat) (pp : Int) (xs ys : List Int) (d : Nat) (w : World) (hp : Po9 w d p1 p2 pn1 pc1 pn2 pc2 pp) (h : PosR w p1 p2 pn1 pn2 xs ys) (hne1 : xs ≠ []) (hne2 : ys ≠ []) :
  Calls Try.prog 55 #[.pointer (some ⟨d, 9, none⟩)] w (PosQ pn1 pn2 pp xs ys w) := by
 have H := Lib.hid h
 have HN1 := Lib.hid hne1
 have HN2 := Lib.hid hne2
 have hle1 : pn1 ≤ 1000000000000 := by have := h.r1.1; rwa [h.l1] at this
 have hle2 : pn2 ≤ 1000000000000 := by have := h.r2.1; rwa [h.l2] at this
 have HP := Lib.hid (hp.below (al1 _ (.cells #[.slice none 0 0, .slice none 0 0, .int .i64 0] 32)));have HB := Lib.hid (show OnW w _ from al1 w (.cells #[.slice none 0 0, .slice none 0 0, .int .i64 0] 32));have HZ := Lib.hid (zero_new w 32);have hdz : d ≠ w.heap.size := (by have := hp.1; omega)
 have HT : Hid (∀ u : World, Po9 u (d) p1 p2 pn1 pc1 pn2 pc2 pp → OnW w u → (d < u.heap.size ∧ u.cell? ⟨d, 9, none⟩ = some (.slice p1 pn1 pc1) ∧ u.cell? ⟨d, 10, none⟩ = some (.slice p2 pn2 pc2) ∧ u.cell? ⟨d, 11, none⟩ = some (.int .i64 pp)) ∧ Below w.heap.size w u) := Lib.hid (fun u h k => ⟨h, k⟩)
 clear h hne1 hne2
 go_enter Try.func55, Try.ntmps55
 go_wp2_with fail
 go_region_held3 (fun u => (d < u.heap.size ∧ u.cell? ⟨d, 9, none⟩ = some (.slice p1 pn1 pc1) ∧ u.cell? ⟨d, 10, none⟩ = some (.slice p2 pn2 pc2) ∧ u.cell? ⟨d, 11, none⟩ = some (.int .i64 pp)) ∧ Below w.heap.size w u) (first | exact HT.out _ HP.out HB.out | exact HT.out _ HP.out.drew HB.out.drew | exact HT.out _ (HP.out.set3 hdz _ _ _) (HB.out.set3 (by omega) _ _ _))
  (first
  | (go_at_call 65; (with_reducible refine (l00Own_any p1 pc1 pn1 xs _ H.out.l1 ?_ HN1.out).mono ?_); (first | exact H.out.r1.below HB.out | exact H.out.r1.below HB.out.drew); rintro e w5 ⟨v1, rfl, hown, hb5⟩; (obtain ⟨c5, b5, rfl, o5, hlt5, hc5⟩ := outN_own hown H.out.l1 hle1 HN1.out); have O1 := Lib.hid o5; have nb1 := o5.new; have nz1 := HZ.out.lt; (first | have HP := Lib.hid (HP.out.below hb5) | have HP := Lib.hid (HP.out.drew.below hb5) | have HP := Lib.hid ((HP.out.below (al1 _ _)).below hb5) | have HP := Lib.hid ((HP.out.below (al1 _ _)).drew.below hb5)); (first | have HB := Lib.hid (HB.out.below hb5) | have HB := Lib.hid (HB.out.drew.below hb5) | have HB := Lib.hid ((HB.out.below (al1 _ _)).below hb5) | have HB := Lib.hid ((HB.out.below (al1 _ _)).drew.below hb5)); (first | have HZ := Lib.hid (HZ.out.below hb5) | have HZ := Lib.hid (HZ.out.drew.below hb5) | have HZ := Lib.hid ((HZ.out.below (al1 _ _)).below hb5) | have HZ := Lib.hid ((HZ.out.below (al1 _ _)).drew.below hb5)); clear hown hb5 o5)
  | (go_at_call 65; (with_reducible refine (l00Own_any p2 pc2 pn2 ys _ H.out.l2 ?_ HN2.out).mono ?_); (first | exact H.out.r2.below HB.out | exact H.out.r2.below HB.out.drew); rintro e w6 ⟨v2, rfl, hown, hb6⟩; (obtain ⟨c6, b6, rfl, o6, hlt6, hc6⟩ := outN_own hown H.out.l2 hle2 HN2.out); have O2 := Lib.hid o6; have nb2 := o6.new; have nz2 := HZ.out.lt; (first | have HP := Lib.hid (HP.out.below hb6) | have HP := Lib.hid (HP.out.drew.below hb6) | have HP := Lib.hid ((HP.out.below (al1 _ _)).below hb6) | have HP := Lib.hid ((HP.out.below (al1 _ _)).drew.below hb6)); (first | have HB := Lib.hid (HB.out.below hb6) | have HB := Lib.hid (HB.out.drew.below hb6) | have HB := Lib.hid ((HB.out.below (al1 _ _)).below hb6) | have HB := Lib.hid ((HB.out.below (al1 _ _)).drew.below hb6)); (first | have HZ := Lib.hid (HZ.out.below hb6) | have HZ := Lib.hid (HZ.out.drew.below hb6) | have HZ := Lib.hid ((HZ.out.below (al1 _ _)).below hb6) | have HZ := Lib.hid ((HZ.out.below (al1 _ _)).drew.below hb6)); (first | have O1 := Lib.hid (O1.out.below hb6) | have O1 := Lib.hid (O1.out.drew.below hb6) | have O1 := Lib.hid ((O1.out.below (al1 _ _)).below hb6) | have O1 := Lib.hid ((O1.out.below (al1 _ _)).drew.below hb6)); (obtain ⟨zl, z0, z1, z2, zf⟩ := HZ.out); have f0 := zf 0; have f1 := zf 1; have f2 := zf 2; clear hown hb6 o6 zf))
 have nb3 : (w.heap.size) + 1 ≤ b5 := by
  have hh := nb1
  simp at hh
  omega
 have m5 : b5 ≠ w.heap.size := by omega
 have m6 : b6 ≠ w.heap.size := by omega
 have hs5 := HB.out.size
 go_wp2_with fail
 refine bodyPost_ret (v := .agg #[.slice (some ⟨b5, 0, none⟩) pn1 c5, .slice (some ⟨b6, 0, none⟩) pn2 c6, .int .i64 pp]) (by simp [results, Try.results55, go_sem, z0, z1, z2]) rfl ⟨b5, c5, b6, c6, rfl, ⟨(((O1.out.setCell m5 _).setCell m5 _).setCell m5 _).lower (by first | (simp; done) | (simp; omega)), (((O2.out.setCell m6 _).setCell m6 _).setCell m6 _).lower (by first | omega | (simp; omega)), by omega, H.out.l1, H.out.l2⟩, by simp; omega, by simp; omega, hc5, hc6, HB.out.set3 (by omega) _ _ _⟩
theorem l04Ok9_any (p s c l : Int) (st sk re fe ag : Bool) (p1 p2 : Option Addr) (pn1 pc1 pn2 pc2 : Nat) (pp : Int) (xs ys : List Int) (b d : Nat) (w : World) (c0 : w.cell? ⟨b, 0, none⟩ = some (.int .i64 p)) (c1 : w.cell? ⟨b, 1, none⟩ = some (.int .i64 s)) (c2 : w.cell? ⟨b, 2, none⟩ = some (.bool st)) (c3 : w.cell? ⟨b, 3, none⟩ = some (.bool sk)) (c4 : w.cell? ⟨b, 4, none⟩ = some (.bool re)) (c5 : w.cell? ⟨b, 5, none⟩ = some (.bool fe)) (c6 : w.cell? ⟨b, 6, none⟩ = some (.bool ag)) (c7 : w.cell? ⟨b, 7, none⟩ = some (.int .i64 c)) (c8 : w.cell? ⟨b, 8, none⟩ = some (.int .i64 l)) (d0 : w.cell? ⟨d, 9, none⟩ = some (.slice p1 pn1 pc1)) (d1 : w.cell? ⟨d, 10, none⟩ = some (.slice p2 pn2 pc2)) (d2 : w.cell? ⟨d, 11, none⟩ = some (.int .i64 pp))
  (h : PosR w p1 p2 pn1 pn2 xs ys) :
  Calls Try.prog 36 #[.pointer (some ⟨b, 0, none⟩), .pointer (some ⟨d, 9, none⟩)] w (Still (.bool (okP (okR p s c l st ag) p pn1 pn2 pp xs ys)) w) := by
 have hb1 : pn1 ≤ 1000000000000 := by rw [← h.l1]; exact h.r1.1
 have hb2 : pn2 ≤ 1000000000000 := by rw [← h.l2]; exact h.r2.1
 have H := Lib.hid h
 clear h
 rcases hok : okR p s c l st ag with _ | _
 ·rw [okP_1 rfl]
  have Hok := Lib.hid hok
  clear hok
  go_enter Try.func36, Try.ntmps36
  go_wp2_with fail
  go_quiet ((go_at_call 53; exact quiet_w (l02Ok_b p s c l st sk re fe ag _ Hok.out b _ c0 c1 c2 c3 c4 c5 c6 c7 c8) ⟨_, rfl⟩))
  go_wp2_with fail
  go_ret
  exact ⟨rfl, _, rfl⟩
 ·have hbd := okR_bd hok
  obtain ⟨hp1, hp2, -⟩ := hbd
  have Hok := Lib.hid hok
  clear hok
  by_cases h2 : (pn1 : Int) = 2 * p
  ·have hd1 : ((pn1 : Int) != 2 * p) = false := by simpa using h2
   have H2 := Lib.hid h2
   clear h2
   by_cases h3 : pn2 = 2
   ·have hd2 : ((pn2 : Int) != 2) = false := by simp [h3]
    have H3 := Lib.hid h3
    clear h3
    rcases h4 : (decide (0 ≤ pp) && decide (pp ≤ 1)) with _ | _
    ·rw [okP_4 h4]
     have H4 := Lib.hid h4
     clear h4
     go_enter Try.func36, Try.ntmps36
     go_wp2_with fail
     go_quiet ((first | (go_at_call 53; exact quiet_w (l02Ok_b p s c l st sk re fe ag _ Hok.out b _ c0 c1 c2 c3 c4 c5 c6 c7 c8) ⟨_, rfl⟩) | (go_at_call 47; exact quiet_w (in_b pp 0 1 _ H4.out _) ⟨_, rfl⟩)))
     go_wp2_with fail
     go_ret
     exact ⟨rfl, _, rfl⟩
    ·rw [okP_5 rfl H2.out H3.out h4, ← seedB_eq]
     have H4 := Lib.hid h4
     obtain ⟨b1, b2⟩ := sumC_bd xs
     obtain ⟨b3, b4⟩ := sumC_bd ys
     clear h4
     go_enter Try.func36, Try.ntmps36
     go_wp2_with fail
     go_quiet ((first | (go_at_call 53; exact quiet_w (l02Ok_b p s c l st sk re fe ag _ Hok.out b _ c0 c1 c2 c3 c4 c5 c6 c7 c8) ⟨_, rfl⟩) | (go_at_call 47; exact quiet_w (in_b pp 0 1 _ H4.out _) ⟨_, rfl⟩)))
     go_wp2_with fail
     refine (l04Sum_any p1 pc1 pn1 xs _ H.out.l1 (H.out.r1.drewN _)).mono ?_
     rintro e w' ⟨rfl, rfl⟩
     go_wp2_with fail
     refine (l04Sum_any p2 pc2 pn2 ys _ H.out.l2 (H.out.r2.drewN _)).mono ?_
     rintro e w' ⟨rfl, rfl⟩
     generalize sumC xs = s1 at *
     generalize sumC ys = s2 at *
     go_wp2_with fail
     all_goals
      go_ret
      exact ⟨by simp [*]; try omega, _, rfl⟩
   ·rw [okP_3 h3]
    have hd2 : ((pn2 : Int) != 2) = true := by simp; omega
    clear h3
    go_enter Try.func36, Try.ntmps36
    go_wp2_with fail
    go_quiet ((go_at_call 53; exact quiet_w (l02Ok_b p s c l st sk re fe ag _ Hok.out b _ c0 c1 c2 c3 c4 c5 c6 c7 c8) ⟨_, rfl⟩))
    go_wp2_with fail
    go_ret
    exact ⟨rfl, _, rfl⟩
  ·rw [okP_2 h2]
   have hd : ((pn1 : Int) != 2 * p) = true := by simpa using h2
   have hd2 : ((pn1 : Int) == 2 * p) = false := by simpa using h2
   clear h2
   go_enter Try.func36, Try.ntmps36
   go_wp2_with fail
   go_quiet ((go_at_call 53; exact quiet_w (l02Ok_b p s c l st sk re fe ag _ Hok.out b _ c0 c1 c2 c3 c4 c5 c6 c7 c8) ⟨_, rfl⟩))
   go_wp2_with fail
   go_ret
   exact ⟨rfl, _, rfl⟩
theorem l04SameO_any (p1 p2 : Option Addr) (pn1 pc1 pn2 pc2 : Nat) (pp : Int) (x1 x2 : Option Addr) (xn1 xc1 xn2 xc2 : Nat) (xp : Int) (xs ys us vs : List Int) (b o d : Nat) (w : World) (hp : PoO w b o p1 p2 pn1 pc1 pn2 pc2 pp) (hx : At3 w d x1 x2 xn1 xc1 xn2 xc2 xp 13 14 15) (h1 : PosR w p1 p2 pn1 pn2 xs ys) (h2 : PosR w x1 x2 xn1 xn2 us vs) :
  Calls Try.prog 48 #[.pointer (some ⟨b, o, none⟩), .pointer (some ⟨d, 13, none⟩)] w (Still (.bool (sameB xs us ys vs pp xp)) w) := by
 obtain ⟨_, g0, g1, g2⟩ := hp
 obtain ⟨_, k0, k1, k2⟩ := hx
 have C1 := Lib.hid (fun m => l00Same_any p1 x1 pc1 xc1 pn1 xn1 xs us (w.drewN m) h1.l1 h2.l1 (h1.drewN m).r1 (h2.drewN m).r1)
 have C2 := Lib.hid (fun m => l00Same_any p2 x2 pc2 xc2 pn2 xn2 ys vs (w.drewN m) h1.l2 h2.l2 (h1.drewN m).r2 (h2.drewN m).r2)
 clear h1 h2
 unfold sameB
 generalize hv1 : decide (xs = us) = v1 at *
 generalize hv2 : decide (ys = vs) = v2 at *
 clear hv1 hv2
 cases v1
 ·go_enter Try.func48, Try.ntmps48
  go_wp2_with fail
  go_quiet ((go_at_call 61; with_reducible exact quiet_s (C1.out _) ⟨_, rfl⟩))
  go_wp2_with fail
  go_ret
  exact ⟨rfl, _, rfl⟩
 ·cases v2
  all_goals
   go_enter Try.func48, Try.ntmps48
   go_wp2_with fail
   go_quiet ((first | (go_at_call 61; with_reducible exact quiet_s (C1.out _) ⟨_, rfl⟩) | (go_at_call 61; with_reducible exact quiet_s (C2.out _) ⟨_, rfl⟩)))
   go_wp2_with fail
   go_ret
   exact ⟨rfl, _, rfl⟩
/- Game7 -/
theorem there18 (v : World) (T : TypeId) : (v.alloc (.cells #[.int .i64 0, .int .i64 0, .bool false, .bool false, .bool false, .bool false, .bool false, .int .i64 0, .int .i64 0, .slice none 0 0, .slice none 0 0, .int .i64 0, .slice none 0 0, .slice none 0 0, .slice none 0 0, .int .i64 0, .int .i64 0, .slice none 0 0] T)).there v.heap.size 0 18 := fun j hj => by
 match j, hj with
 | 0, _ => exact ⟨by go_simp, by go_simp⟩
 | 1, _ => exact ⟨by go_simp, by go_simp⟩
 | 2, _ => exact ⟨by go_simp, by go_simp⟩
 | 3, _ => exact ⟨by go_simp, by go_simp⟩
 | 4, _ => exact ⟨by go_simp, by go_simp⟩
 | 5, _ => exact ⟨by go_simp, by go_simp⟩
 | 6, _ => exact ⟨by go_simp, by go_simp⟩
 | 7, _ => exact ⟨by go_simp, by go_simp⟩
 | 8, _ => exact ⟨by go_simp, by go_simp⟩
 | 9, _ => exact ⟨by go_simp, by go_simp⟩
 | 10, _ => exact ⟨by go_simp, by go_simp⟩
 | 11, _ => exact ⟨by go_simp, by go_simp⟩
 | 12, _ => exact ⟨by go_simp, by go_simp⟩
 | 13, _ => exact ⟨by go_simp, by go_simp⟩
 | 14, _ => exact ⟨by go_simp, by go_simp⟩
 | 15, _ => exact ⟨by go_simp, by go_simp⟩
 | 16, _ => exact ⟨by go_simp, by go_simp⟩
 | 17, _ => exact ⟨by go_simp, by go_simp⟩
 | n + 18, h => exact absurd h (by omega)
structure Th18 (u : World) (z : Nat) : Prop where
 lt : z < u.heap.size
 th : u.there z 0 18
theorem Th18.below {u v : World} {z : Nat} (h : Th18 u z) (k : Below u.heap.size u v) : Th18 v z := ⟨Nat.lt_of_lt_of_le h.lt k.size, there_of h.th h.lt k⟩
theorem pl_one (p s c l qp : Int) (st sk re fe ag : Bool) (g1 c1 g2 c2 g4 c4 g5 c5 qn1 qn2 : Nat) : (List.toArray ([.int .i64 p, .int .i64 s, .bool st, .bool sk, .bool re, .bool fe, .bool ag, .int .i64 c, .int .i64 l, .slice (some ⟨g1, 0, none⟩) qn1 c1, .slice (some ⟨g2, 0, none⟩) qn2 c2, .int .i64 qp, .slice none 0 0, .slice (some ⟨g4, 0, none⟩) qn1 c4, .slice (some ⟨g5, 0, none⟩) qn2 c5, .int .i64 qp, .int .i64 (-1), .slice none 0 0] : List Value)).all (·.oneCell') = true := all_oneCell_toArray (by simp [Value.oneCell'])
/- Bp8 -/
def NewPC (p s c l : Int) (st sk re fe ag : Bool) (qn1 qn2 : Nat) (qp : Int) (xs ys : List Int) (w : World) (e : Ending) (w' : World) : Prop :=
 ∃ g1 c1 g2 c2 g4 c4 g5 c5 : Nat, e = .returned (.agg #[.int .i64 p, .int .i64 s, .bool st, .bool sk, .bool re, .bool fe, .bool ag, .int .i64 c, .int .i64 l, .slice (some ⟨g1, 0, none⟩) qn1 c1, .slice (some ⟨g2, 0, none⟩) qn2 c2, .int .i64 qp, .slice none 0 0, .slice (some ⟨g4, 0, none⟩) qn1 c4, .slice (some ⟨g5, 0, none⟩) qn2 c5, .int .i64 qp, .int .i64 (-1), .slice none 0 0]) ∧ NewR w w' g1 g2 g4 g5 qn1 qn2 xs ys ∧ qn1 ≤ c1 ∧ qn2 ≤ c2 ∧ qn1 ≤ c4 ∧ qn2 ≤ c5
theorem beginPlayC_any (p s c l : Int) (st sk re fe ag : Bool) (q1 q2 : Option Addr) (qn1 qc1 qn2 qc2 : Nat) (qp : Int) (xs ys : List Int) (w : World) (h : PosR w q1 q2 qn1 qn2 xs ys) (hne1 : xs ≠ []) (hne2 : ys ≠ []) :
  Calls Try.prog 39 #[.agg #[.int .i64 p, .int .i64 s, .bool st, .bool sk, .bool re, .bool fe, .bool ag, .int .i64 c, .int .i64 l], .agg #[.slice q1 qn1 qc1, .slice q2 qn2 qc2, .int .i64 qp]] w (NewPC p s c l st sk re fe ag qn1 qn2 qp xs ys w) := by
 have H := Lib.hid h
 have HN := Lib.hid (And.intro hne1 hne2)
 have hs := rp_new p s c l st sk re fe ag q1 q2 qn1 qc1 qn2 qc2 qp w 31 32
 have hth := there18 ((w.alloc (.cells #[.int .i64 p, .int .i64 s, .bool st, .bool sk, .bool re, .bool fe, .bool ag, .int .i64 c, .int .i64 l] 31)).alloc (.cells #[.slice q1 qn1 qc1, .slice q2 qn2 qc2, .int .i64 qp] 32)) 58
 have hbz := al1 ((w.alloc (.cells #[.int .i64 p, .int .i64 s, .bool st, .bool sk, .bool re, .bool fe, .bool ag, .int .i64 c, .int .i64 l] 31)).alloc (.cells #[.slice q1 qn1 qc1, .slice q2 qn2 qc2, .int .i64 qp] 32)) (.cells #[.int .i64 0, .int .i64 0, .bool false, .bool false, .bool false, .bool false, .bool false, .int .i64 0, .int .i64 0, .slice none 0 0, .slice none 0 0, .int .i64 0, .slice none 0 0, .slice none 0 0, .slice none 0 0, .int .i64 0, .int .i64 0, .slice none 0 0] 58)
 have hsz : ((w.alloc (.cells #[.int .i64 p, .int .i64 s, .bool st, .bool sk, .bool re, .bool fe, .bool ag, .int .i64 c, .int .i64 l] 31)).alloc (.cells #[.slice q1 qn1 qc1, .slice q2 qn2 qc2, .int .i64 qp] 32)).heap.size = w.heap.size + 1 + 1 := by simp
 rw [hsz] at hth
 have HR := Lib.hid (hs.1.below hbz)
 have HP := Lib.hid (hs.2.1.below hbz)
 have HB := Lib.hid (hs.2.2.trans (hbz.mono hs.2.2.size))
 have HG : Hid (Th18 (((w.alloc (.cells #[.int .i64 p, .int .i64 s, .bool st, .bool sk, .bool re, .bool fe, .bool ag, .int .i64 c, .int .i64 l] 31)).alloc (.cells #[.slice q1 qn1 qc1, .slice q2 qn2 qc2, .int .i64 qp] 32)).alloc (.cells #[.int .i64 0, .int .i64 0, .bool false, .bool false, .bool false, .bool false, .bool false, .int .i64 0, .int .i64 0, .slice none 0 0, .slice none 0 0, .int .i64 0, .slice none 0 0, .slice none 0 0, .slice none 0 0, .int .i64 0, .int .i64 0, .slice none 0 0] 58)) (w.heap.size + 1 + 1)) := Lib.hid ⟨by simp, hth⟩
 have hw1 : w.heap.size + 1 + 1 < (((w.alloc (.cells #[.int .i64 p, .int .i64 s, .bool st, .bool sk, .bool re, .bool fe, .bool ag, .int .i64 c, .int .i64 l] 31)).alloc (.cells #[.slice q1 qn1 qc1, .slice q2 qn2 qc2, .int .i64 qp] 32)).alloc (.cells #[.int .i64 0, .int .i64 0, .bool false, .bool false, .bool false, .bool false, .bool false, .int .i64 0, .int .i64 0, .slice none 0 0, .slice none 0 0, .int .i64 0, .slice none 0 0, .slice none 0 0, .slice none 0 0, .int .i64 0, .int .i64 0, .slice none 0 0] 58)).heap.size := by simp
 clear h hne1 hne2 hs hth hbz hsz
 go_enter Try.func39, Try.ntmps39
 go_upto_region 1 with fail
 generalize hU : ((w.alloc (.cells #[.int .i64 p, .int .i64 s, .bool st, .bool sk, .bool re, .bool fe, .bool ag, .int .i64 c, .int .i64 l] 31)).alloc (.cells #[.slice q1 qn1 qc1, .slice q2 qn2 qc2, .int .i64 qp] 32)).alloc (.cells #[.int .i64 0, .int .i64 0, .bool false, .bool false, .bool false, .bool false, .bool false, .int .i64 0, .int .i64 0, .slice none 0 0, .slice none 0 0, .int .i64 0, .slice none 0 0, .slice none 0 0, .slice none 0 0, .int .i64 0, .int .i64 0, .slice none 0 0] 58) = U at *
 clear hU
 refine wp_region_held_drew (S := fun u => u.rangeAt w.heap.size 0 [.int .i64 p, .int .i64 s, .bool st, .bool sk, .bool re, .bool fe, .bool ag, .int .i64 c, .int .i64 l] ∧ u.rangeAt (w.heap.size + 1) 0 [.slice q1 qn1 qc1, .slice q2 qn2 qc2, .int .i64 qp]) (by kernel_rfl) ⟨RuAt.range9 HR.out, PoAt.range3 HP.out⟩ (fun hHeld => ?_)
 have HR := Lib.hid (HR.out.below (below_dn (Below.refl _ _) 1))
 have HP := Lib.hid (HP.out.below (below_dn (Below.refl _ _) 1))
 have HB := Lib.hid (below_dn HB.out 1)
 have HG := Lib.hid (HG.out.below (below_dn (Below.refl _ _) 1))
 refine wpAnyH_take (i := 0) rfl (by kernel_rfl) (by kernel_rfl) (by kernel_rfl) (fun _ _ _ h => h) (yieldsIf_load_mid (by rfl) 31 _ rfl w.heap.size 0 rfl [.int .i64 p, .int .i64 s, .bool st, .bool sk, .bool re, .bool fe, .bool ag, .int .i64 c, .int .i64 l] _ (fun u hu => hu.1) Try.underlying31 rfl (by kernel_rfl)) hHeld ?_
 simp only [Act.put, List.setIfInBounds_toArray]
 refine wpAnyH_take (i := 1) rfl (by kernel_rfl) (by kernel_rfl) (by kernel_rfl) (fun _ _ _ h => h) (yieldsIf_load_mid (by rfl) 32 _ rfl (w.heap.size + 1) 0 rfl [.slice q1 qn1 qc1, .slice q2 qn2 qc2, .int .i64 qp] _ (fun u hu => hu.2) Try.underlying32 rfl (by kernel_rfl)) hHeld ?_
 simp only [Act.put]
 refine wpAnyH_take (i := 3) rfl (by kernel_rfl) (by kernel_rfl) (by kernel_rfl) (fun _ _ _ h => h) (yieldsIf_load_mid (by rfl) 32 _ rfl (w.heap.size + 1) 0 rfl [.slice q1 qn1 qc1, .slice q2 qn2 qc2, .int .i64 qp] _ (fun u hu => hu.2) Try.underlying32 rfl (by kernel_rfl)) hHeld ?_
 simp only [Act.put]
 refine wpAnyH_ready (rs := [2]) (by kernel_rfl) (by simp) ?_
 refine AllReadyH.cons rfl (fun K hK => ?_) AllReadyH.nil
 rw [if_pos (by rfl)]
 go_simp
 go_at_call 59
 refine (copy_any q1 q2 qn1 qc1 qn2 qc2 qp xs ys _ (H.out.below HB.out) HN.out.1 HN.out.2).mono ?_
 rintro e w2 ⟨g1, c1, g2, c2, rfl, ho, lg, lh, lc, ld, hb⟩
 have HR := Lib.hid (HR.out.below hb)
 have HP := Lib.hid (HP.out.below hb)
 have HG := Lib.hid (HG.out.below hb)
 have HB := Lib.hid (HB.out.trans (hb.mono HB.out.size))
 have O1 := Lib.hid ho
 have O1l := Lib.hid (And.intro lg (And.intro lh (And.intro lc ld)))
 clear hb ho lg lh lc ld
 (try dsimp only)
 refine hK.out _ _ ⟨RuAt.range9 HR.out, PoAt.range3 HP.out⟩ (fun hHeld => ?_)
 clear hK K
 (try simp only [Act.put, List.setIfInBounds_toArray, List.set_cons_zero, List.set_cons_succ])
 refine wpAnyH_ready (rs := [4]) (by kernel_rfl) (by simp) ?_
 refine AllReadyH.cons rfl (fun K hK => ?_) AllReadyH.nil
 rw [if_pos (by rfl)]
 go_simp
 go_at_call 59
 refine (copy_any q1 q2 qn1 qc1 qn2 qc2 qp xs ys _ (H.out.below HB.out) HN.out.1 HN.out.2).mono ?_
 rintro e w4 ⟨g4, c4, g5, c5, rfl, ho, lg, lh, lc, ld, hb⟩
 have HR := Lib.hid (HR.out.below hb)
 have HP := Lib.hid (HP.out.below hb)
 have HG := Lib.hid (HG.out.below hb)
 have O1 := Lib.hid (O1.out.below hb)
 have HB := Lib.hid (HB.out.trans (hb.mono HB.out.size))
 have O2 := Lib.hid ho
 have O2l := Lib.hid (And.intro lg (And.intro lh (And.intro lc ld)))
 clear hb ho lg lh lc ld
 (try dsimp only)
 refine hK.out _ _ ⟨RuAt.range9 HR.out, PoAt.range3 HP.out⟩ (fun hHeld => ?_)
 clear hK K
 (try simp only [Act.put, List.setIfInBounds_toArray, List.set_cons_zero, List.set_cons_succ])
 refine wpAnyH_take (i := 5) (oi := { dst := some 10, op := Op.build 34 #[(0, Operand.tmp 5), (1, Operand.tmp 7), (3, Operand.tmp 9), (4, Operand.const (Value.int IntKind.i64 (-1)))], type := 34, pos := "l08_games.go:32", after := #[{ on := 0, ground := Ground.data }, { on := 2, ground := Ground.data }, { on := 4, ground := Ground.data }], guard := none }) (v := .agg #[.int .i64 p, .int .i64 s, .bool st, .bool sk, .bool re, .bool fe, .bool ag, .int .i64 c, .int .i64 l, .slice (some ⟨g1, 0, none⟩) qn1 c1, .slice (some ⟨g2, 0, none⟩) qn2 c2, .int .i64 qp, .slice none 0 0, .slice (some ⟨g4, 0, none⟩) qn1 c4, .slice (some ⟨g5, 0, none⟩) qn2 c5, .int .i64 qp, .int .i64 (-1)]) rfl (by kernel_rfl) (by kernel_rfl) (by kernel_rfl) (fun _ _ _ h => h) (.inl ⟨by rfl, fun u hu => by (try dsimp only at hu); go_simp; try with_reducible rfl⟩) hHeld ?_
 simp only [Act.put, List.setIfInBounds_toArray, List.set_cons_zero, List.set_cons_succ]
 refine wpAnyH_take (i := 6) (oi := { dst := some 11, op := Op.build 58 #[(0, Operand.tmp 10)], type := 58, pos := "l08_games.go:32", after := #[{ on := 5, ground := Ground.data }], guard := none }) (v := .agg #[.int .i64 p, .int .i64 s, .bool st, .bool sk, .bool re, .bool fe, .bool ag, .int .i64 c, .int .i64 l, .slice (some ⟨g1, 0, none⟩) qn1 c1, .slice (some ⟨g2, 0, none⟩) qn2 c2, .int .i64 qp, .slice none 0 0, .slice (some ⟨g4, 0, none⟩) qn1 c4, .slice (some ⟨g5, 0, none⟩) qn2 c5, .int .i64 qp, .int .i64 (-1), .slice none 0 0]) rfl (by kernel_rfl) (by kernel_rfl) (by kernel_rfl) (fun _ _ _ h => h) (.inl ⟨by rfl, fun u hu => by (try dsimp only at hu); go_simp; try with_reducible rfl⟩) hHeld ?_
 simp only [Act.put, List.setIfInBounds_toArray, List.set_cons_zero, List.set_cons_succ]
 refine wpAnyH_ready (rs := [7]) (by kernel_rfl) (by simp) ?_
 refine AllReadyH.cons rfl (fun K hK => ?_) AllReadyH.nil
 rw [if_pos (by rfl)]
 refine wp_store_mid 58 _ _ rfl (w.heap.size + 1 + 1) 0 (List.toArray [.int .i64 p, .int .i64 s, .bool st, .bool sk, .bool re, .bool fe, .bool ag, .int .i64 c, .int .i64 l, .slice (some ⟨g1, 0, none⟩) qn1 c1, .slice (some ⟨g2, 0, none⟩) qn2 c2, .int .i64 qp, .slice none 0 0, .slice (some ⟨g4, 0, none⟩) qn1 c4, .slice (some ⟨g5, 0, none⟩) qn2 c5, .int .i64 qp, .int .i64 (-1), .slice none 0 0]) rfl rfl HG.out.th (by kernel_rfl) (pl_one p s c l qp st sk re fe ag g1 c1 g2 c2 g4 c4 g5 c5 qn1 qn2) ?_
 simp only [Act.put, List.setIfInBounds_toArray]
 refine hK.out _ _ ⟨RuAt.range9 (HR.out.but (but_scg (w.heap.size + 1 + 1) [.int .i64 p, .int .i64 s, .bool st, .bool sk, .bool re, .bool fe, .bool ag, .int .i64 c, .int .i64 l, .slice (some ⟨g1, 0, none⟩) qn1 c1, .slice (some ⟨g2, 0, none⟩) qn2 c2, .int .i64 qp, .slice none 0 0, .slice (some ⟨g4, 0, none⟩) qn1 c4, .slice (some ⟨g5, 0, none⟩) qn2 c5, .int .i64 qp, .int .i64 (-1), .slice none 0 0] 0 (But.refl _ _)) (by omega)), PoAt.range3 (HP.out.but (but_scg (w.heap.size + 1 + 1) [.int .i64 p, .int .i64 s, .bool st, .bool sk, .bool re, .bool fe, .bool ag, .int .i64 c, .int .i64 l, .slice (some ⟨g1, 0, none⟩) qn1 c1, .slice (some ⟨g2, 0, none⟩) qn2 c2, .int .i64 qp, .slice none 0 0, .slice (some ⟨g4, 0, none⟩) qn1 c4, .slice (some ⟨g5, 0, none⟩) qn2 c5, .int .i64 qp, .int .i64 (-1), .slice none 0 0] 0 (But.refl _ _)) (by omega))⟩ (fun hHeld => ?_)
 clear hK K
 (try simp only [Act.put, List.setIfInBounds_toArray, List.set_cons_zero, List.set_cons_succ])
 refine wpAnyH_done (by kernel_rfl) ?_ _
 go_wp2_with fail
 have hrun := run_loadVar_mid (P := Try.prog) _ (w.heap.size + 1 + 1) 0 58 [.int .i64 p, .int .i64 s, .bool st, .bool sk, .bool re, .bool fe, .bool ag, .int .i64 c, .int .i64 l, .slice (some ⟨g1, 0, none⟩) qn1 c1, .slice (some ⟨g2, 0, none⟩) qn2 c2, .int .i64 qp, .slice none 0 0, .slice (some ⟨g4, 0, none⟩) qn1 c4, .slice (some ⟨g5, 0, none⟩) qn2 c5, .int .i64 qp, .int .i64 (-1), .slice none 0 0] _ (World.rangeAt_setCells_same w4 (w.heap.size + 1 + 1) 0 [.int .i64 p, .int .i64 s, .bool st, .bool sk, .bool re, .bool fe, .bool ag, .int .i64 c, .int .i64 l, .slice (some ⟨g1, 0, none⟩) qn1 c1, .slice (some ⟨g2, 0, none⟩) qn2 c2, .int .i64 qp, .slice none 0 0, .slice (some ⟨g4, 0, none⟩) qn1 c4, .slice (some ⟨g5, 0, none⟩) qn2 c5, .int .i64 qp, .int .i64 (-1), .slice none 0 0] HG.out.th) Try.underlying58 rfl (by kernel_rfl)
 have o1 : U.heap.size ≤ g1 := O1.out.o1.new
 have o2 : U.heap.size ≤ g2 := O1.out.o2.new
 have o4 := O2.out.o1.new
 have o5 := O2.out.o2.new
 obtain ⟨p1, p2, -, -⟩ := O1l.out
 obtain ⟨p4, p5, -, -⟩ := O2l.out
 refine bodyPost_ret (v := .agg (List.toArray [.int .i64 p, .int .i64 s, .bool st, .bool sk, .bool re, .bool fe, .bool ag, .int .i64 c, .int .i64 l, .slice (some ⟨g1, 0, none⟩) qn1 c1, .slice (some ⟨g2, 0, none⟩) qn2 c2, .int .i64 qp, .slice none 0 0, .slice (some ⟨g4, 0, none⟩) qn1 c4, .slice (some ⟨g5, 0, none⟩) qn2 c5, .int .i64 qp, .int .i64 (-1), .slice none 0 0])) ?_ rfl ⟨g1, c1, g2, c2, g4, c4, g5, c5, rfl, NewR.sc (w.heap.size + 1 + 1) _ 0 ⟨O1.out.lower (show w.heap.size ≤ U.heap.size by omega), O2.out.lower (by omega), ?_, ?_, O2l.out.1, O2l.out.2.1, ?_, ?_, ?_, ?_, HB.out⟩ (by omega) (by omega) (by omega) (by omega) (by omega), O1l.out.2.2.1, O1l.out.2.2.2, O2l.out.2.2.1, O2l.out.2.2.2⟩
 ·simp [results, Try.results39, asAddr, hrun]
 all_goals omega
/- Wat -/
structure WAt (u : World) (lo hi A : Nat) (a1 a2 : Option Addr) (b1 b2 n1 c1 n2 c2 : Nat) (pl : Int) (us vs : List Int) : Prop where
 po : PoAt u A a1 a2 n1 c1 n2 c2 pl
 o : PosO u lo a1 a2 b1 b2 n1 n2 us vs
 lo_le : lo ≤ A
 lt : A < hi
 lt1 : b1 < hi
 lt2 : b2 < hi
 hi_le : hi ≤ u.heap.size
 ne1 : A ≠ b1
 ne2 : A ≠ b2
section
variable {u v w : World} {lo hi A b1 b2 n1 c1 n2 c2 : Nat} {a1 a2 : Option Addr} {pl : Int} {us vs : List Int}
theorem WAt.below (h : WAt u lo hi A a1 a2 b1 b2 n1 c1 n2 c2 pl us vs) (k : Below u.heap.size u v) : WAt v lo hi A a1 a2 b1 b2 n1 c1 n2 c2 pl us vs :=
 ⟨h.po.below k, h.o.below k, h.lo_le, h.lt, h.lt1, h.lt2, Nat.le_trans h.hi_le k.size, h.ne1, h.ne2⟩
theorem WAt.drew (h : WAt u lo hi A a1 a2 b1 b2 n1 c1 n2 c2 pl us vs) : WAt u.drew lo hi A a1 a2 b1 b2 n1 c1 n2 c2 pl us vs := h.below (Below.refl _ _).drew
theorem PoAt.but2 {b c d : Nat} {x1 x2 : Option Addr} {xn1 xc1 xn2 xc2 : Nat} {xp : Int} (h : PoAt u d x1 x2 xn1 xc1 xn2 xc2 xp) (k : But2 b c u v) (hb : d ≠ b) (hc : d ≠ c) : PoAt v d x1 x2 xn1 xc1 xn2 xc2 xp := by
 obtain ⟨hd, h⟩ := h
 have e := fun o => k.cell (d := d) (o := o) hd hb hc
 exact ⟨Nat.lt_of_lt_of_le hd k.size, by rw [e, e, e]; exact h⟩
theorem WAt.but2 {b c : Nat} (h : WAt u lo hi A a1 a2 b1 b2 n1 c1 n2 c2 pl us vs) (k : But2 b c u v) (hb : hi ≤ b ∨ b < lo) (hc : hi ≤ c ∨ c < lo) : WAt v lo hi A a1 a2 b1 b2 n1 c1 n2 c2 pl us vs := by
 have h1 := h.lo_le
 have h2 := h.lt
 have h3 := h.lt1
 have h4 := h.lt2
 have h5 := h.o.o1.new
 have h6 := h.o.o2.new
 exact ⟨h.po.but2 k (by omega) (by omega), h.o.but2 k (by omega) (by omega) (by omega) (by omega), h1, h2, h3, h4, Nat.le_trans h.hi_le k.size, h.ne1, h.ne2⟩
theorem WAt.mark {xs ys : List Int} {us' vs' : List Int} (h : WAt u lo hi A a1 a2 b1 b2 n1 c1 n2 c2 pl us vs) (k : But2 b1 b2 u v) (o : PosO v lo a1 a2 b1 b2 n1 n2 us' vs') : WAt v lo hi A a1 a2 b1 b2 n1 c1 n2 c2 pl us' vs' :=
 ⟨h.po.but2 k h.ne1 h.ne2, o, h.lo_le, h.lt, h.lt1, h.lt2, Nat.le_trans h.hi_le k.size, h.ne1, h.ne2⟩
theorem WAt.set3 {z : Nat} (h : WAt u lo hi A a1 a2 b1 b2 n1 c1 n2 c2 pl us vs) (x y t : Value) (hz : hi ≤ z) : WAt (((u.setCell ⟨z, 0, none⟩ x).setCell ⟨z, 1, none⟩ y).setCell ⟨z, 2, none⟩ t) lo hi A a1 a2 b1 b2 n1 c1 n2 c2 pl us vs :=
 h.but2 (b := z) (c := z) (.of_l ((((But.refl z u).setCell (p := ⟨z, 0, none⟩) rfl x).setCell (p := ⟨z, 1, none⟩) rfl y).setCell (p := ⟨z, 2, none⟩) rfl t)) (.inl hz) (.inl hz)
variable {p s c l : Int} {st sk re fe ag : Bool} {p1 p2 : Option Addr} {pn1 pc1 pn2 pc2 : Nat} {pp : Int}
theorem RpAt.but2 {b b' : Nat} (h : RpAt w p s c l st sk re fe ag p1 p2 pn1 pc1 pn2 pc2 pp u) (k : But2 b b' u v) (hb : w.heap.size + 1 < b) (hc : w.heap.size + 1 < b') : RpAt w p s c l st sk re fe ag p1 p2 pn1 pc1 pn2 pc2 pp v := by
 refine ⟨?_, h.2.1.but2 k (by omega) (by omega), k.below h.2.2 (by omega) (by omega) h.2.2.size⟩
 obtain ⟨hd, h⟩ := h.1
 have e := fun o => k.cell (d := w.heap.size) (o := o) hd (by omega) (by omega)
 exact ⟨Nat.lt_of_lt_of_le hd k.size, by rw [e, e, e, e, e, e, e, e, e]; exact h⟩
end
/- WatS -/
theorem PosO.set4 {w : World} {B z : Nat} {a1 a2 : Option Addr} {b1 b2 n1 n2 : Nat} {xs ys : List Int} (h : PosO w B a1 a2 b1 b2 n1 n2 xs ys) (x y t q : Value) (k1 : b1 ≠ z) (k2 : b2 ≠ z) : PosO ((((w.setCell ⟨z, 0, none⟩ x).setCell ⟨z, 1, none⟩ y).setCell ⟨z, 2, none⟩ t).setCell ⟨z, 3, none⟩ q) B a1 a2 b1 b2 n1 n2 xs ys :=
 h.but (but4 z w x y t q) k1 k2
structure WAtS (u : World) (lo hi A : Nat) (a1 a2 : Option Addr) (b1 b2 n1 c1 n2 c2 : Nat) (pl pk : Int) (us vs : List Int) : Prop where
 po : SoAt u A a1 a2 n1 c1 n2 c2 pl pk
 o : PosO u lo a1 a2 b1 b2 n1 n2 us vs
 lo_le : lo ≤ A
 lt : A < hi
 lt1 : b1 < hi
 lt2 : b2 < hi
 hi_le : hi ≤ u.heap.size
 ne1 : A ≠ b1
 ne2 : A ≠ b2
section
variable {u v w : World} {lo hi A b1 b2 n1 c1 n2 c2 : Nat} {a1 a2 : Option Addr} {pl pk : Int} {us vs : List Int}
theorem WAtS.below (h : WAtS u lo hi A a1 a2 b1 b2 n1 c1 n2 c2 pl pk us vs) (k : Below u.heap.size u v) : WAtS v lo hi A a1 a2 b1 b2 n1 c1 n2 c2 pl pk us vs :=
 ⟨h.po.below k, h.o.below k, h.lo_le, h.lt, h.lt1, h.lt2, Nat.le_trans h.hi_le k.size, h.ne1, h.ne2⟩
theorem WAtS.drew (h : WAtS u lo hi A a1 a2 b1 b2 n1 c1 n2 c2 pl pk us vs) : WAtS u.drew lo hi A a1 a2 b1 b2 n1 c1 n2 c2 pl pk us vs := h.below (Below.refl _ _).drew
theorem SoAt.but2 {b c d : Nat} {x1 x2 : Option Addr} {xn1 xc1 xn2 xc2 : Nat} {xp xq : Int} (h : SoAt u d x1 x2 xn1 xc1 xn2 xc2 xp xq) (k : But2 b c u v) (hb : d ≠ b) (hc : d ≠ c) : SoAt v d x1 x2 xn1 xc1 xn2 xc2 xp xq := by
 obtain ⟨hd, h⟩ := h
 have e := fun o => k.cell (d := d) (o := o) hd hb hc
 exact ⟨Nat.lt_of_lt_of_le hd k.size, by rw [e, e, e, e]; exact h⟩
theorem WAtS.but2 {b c : Nat} (h : WAtS u lo hi A a1 a2 b1 b2 n1 c1 n2 c2 pl pk us vs) (k : But2 b c u v) (hb : hi ≤ b ∨ b < lo) (hc : hi ≤ c ∨ c < lo) : WAtS v lo hi A a1 a2 b1 b2 n1 c1 n2 c2 pl pk us vs := by
 have h1 := h.lo_le
 have h2 := h.lt
 have h3 := h.lt1
 have h4 := h.lt2
 have h5 := h.o.o1.new
 have h6 := h.o.o2.new
 exact ⟨h.po.but2 k (by omega) (by omega), h.o.but2 k (by omega) (by omega) (by omega) (by omega), h1, h2, h3, h4, Nat.le_trans h.hi_le k.size, h.ne1, h.ne2⟩
theorem WAtS.mark {xs ys : List Int} {us' vs' : List Int} (h : WAtS u lo hi A a1 a2 b1 b2 n1 c1 n2 c2 pl pk us vs) (k : But2 b1 b2 u v) (o : PosO v lo a1 a2 b1 b2 n1 n2 us' vs') : WAtS v lo hi A a1 a2 b1 b2 n1 c1 n2 c2 pl pk us' vs' :=
 ⟨h.po.but2 k h.ne1 h.ne2, o, h.lo_le, h.lt, h.lt1, h.lt2, Nat.le_trans h.hi_le k.size, h.ne1, h.ne2⟩
theorem WAtS.set4 {z : Nat} (h : WAtS u lo hi A a1 a2 b1 b2 n1 c1 n2 c2 pl pk us vs) (x y t q : Value) (hz : hi ≤ z) : WAtS ((((u.setCell ⟨z, 0, none⟩ x).setCell ⟨z, 1, none⟩ y).setCell ⟨z, 2, none⟩ t).setCell ⟨z, 3, none⟩ q) lo hi A a1 a2 b1 b2 n1 c1 n2 c2 pl pk us vs :=
 h.but2 (b := z) (c := z) (.of_l (but4 z u x y t q)) (.inl hz) (.inl hz)
theorem WAt.set4 {z : Nat} (h : WAt u lo hi A a1 a2 b1 b2 n1 c1 n2 c2 pl us vs) (x y t q : Value) (hz : hi ≤ z) : WAt ((((u.setCell ⟨z, 0, none⟩ x).setCell ⟨z, 1, none⟩ y).setCell ⟨z, 2, none⟩ t).setCell ⟨z, 3, none⟩ q) lo hi A a1 a2 b1 b2 n1 c1 n2 c2 pl us vs :=
 h.but2 (b := z) (c := z) (.of_l (but4 z u x y t q)) (.inl hz) (.inl hz)
variable {p s c l : Int} {st sk re fe ag : Bool} {p1 p2 : Option Addr} {pn1 pc1 pn2 pc2 : Nat} {pp : Int}
end
/- Mv7 -/
def inM (p move : Int) : Bool := decide (0 ≤ move) && decide (move < p)
def mvV (k : Bool) (p pp : Int) (st sk re : Bool) (xs ys : List Int) (move : Int) : Option Res :=
 if k && (inM p move && decide (xs.getD (pp * p + move).toNat 0 ≠ 0)) then mvF ⟨p, pp, st, sk, re⟩ 100 xs ys (pp * p + move) 0 [] else none
def mvCd (k : Bool) (p pp : Int) (st sk re : Bool) (xs ys : List Int) (move : Int) : Int :=
 if k then (if inM p move then (if xs.getD (pp * p + move).toNat 0 = 0 then 6 else if (mvF ⟨p, pp, st, sk, re⟩ 100 xs ys (pp * p + move) 0 []).isNone then 10 else 0) else 2) else 1
theorem mv_cases {p s c l : Int} {st sk re ag : Bool} {n1 n2 : Nat} {pp : Int} {xs ys : List Int} {k : Bool} (hk : okP (okR p s c l st ag) p n1 n2 pp xs ys = k) (l1 : xs.length = n1) (move : Int) (M : Int → Option Res → Prop)
  (h1 : k = false → M 1 none) (h2 : k = true → ¬ (0 ≤ move ∧ move < p) → M 2 none)
  (h6 : k = true → 0 ≤ move → move < p → ∀ F : Nat, F < n1 → pp * p + move = F → xs.getD F 0 = 0 → M 6 none)
  (hy : k = true → 0 ≤ move → move < p → ∀ F : Nat, F < n1 → pp * p + move = F → xs.getD F 0 ≠ 0 → ∀ MV, mvF ⟨p, pp, st, sk, re⟩ 100 xs ys F 0 [] = MV → M (if MV.isNone then 10 else 0) MV) :
  M (mvCd k p pp st sk re xs ys move) (mvV k p pp st sk re xs ys move) := by
 unfold mvCd mvV
 cases k
 ·simpa using h1 rfl
 ·by_cases hm : 0 ≤ move ∧ move < p
  ·have e1 : inM p move = true := by unfold inM; simp [hm.1, hm.2]
   obtain ⟨q1, q2, q3, q4, -⟩ := okP_parts hk
   obtain ⟨r1, r2, -⟩ := okR_bd q1
   have hmul : 0 ≤ pp * p ∧ pp * p ≤ p := by
    rcases (by omega : pp = 0 ∨ pp = 1) with e | e <;> subst e <;> omega
   obtain ⟨F, hF⟩ : ∃ F : Nat, pp * p + move = F := ⟨(pp * p + move).toNat, by omega⟩
   have hF1 : F < n1 := by omega
   rw [hF, e1]
   simp only [Bool.true_and, Int.toNat_natCast, if_true]
   by_cases he : xs.getD F 0 = 0
   ·rw [if_pos he, if_neg (by simpa using he)]
    exact h6 rfl hm.1 hm.2 F hF1 hF he
   ·have hd : decide (xs.getD F 0 ≠ 0) = true := decide_eq_true he
    rw [if_neg he, hd]
    exact hy rfl hm.1 hm.2 F hF1 hF he _ rfl
  ·have e1 : inM p move = false := by
    unfold inM
    by_cases h : 0 ≤ move
    ·simp; omega
    ·simp [h]
   rw [e1]
   simpa using h2 rfl hm
theorem pl_of_ok {p s c l : Int} {st ag : Bool} {n1 n2 : Nat} {pp : Int} {xs ys : List Int} (hk : okP (okR p s c l st ag) p n1 n2 pp xs ys = true) : n2 = 2 ∧ (pp = 0 ∨ pp = 1) := by
 obtain ⟨q1, q2, q3, q4, -⟩ := okP_parts hk
 exact ⟨q3, by omega⟩
theorem l05Move_any (p s c l : Int) (st sk re fe ag : Bool) (p1 p2 : Option Addr) (pn1 pc1 pn2 pc2 : Nat) (pp : Int) (xs ys : List Int) (rb pb : Nat) (move : Int) (w : World) (hr : RuAt w rb p s c l st sk re fe ag) (hq : PoAt w pb p1 p2 pn1 pc1 pn2 pc2 pp) (h : PosR w p1 p2 pn1 pn2 xs ys) (k : Bool) (hk : okP (okR p s c l st ag) p pn1 pn2 pp xs ys = k) :
  Calls Try.prog 68 #[.pointer (some ⟨rb, 0, none⟩), .pointer (some ⟨pb, 0, none⟩), .int .i64 move] w (SwC pn1 (mvCd k p pp st sk re xs ys move) (mvV k p pp st sk re xs ys move) w) := by
 refine mv_cases (sk := sk) (re := re) hk h.l1 move (fun cd MV => Calls Try.prog 68 #[.pointer (some ⟨rb, 0, none⟩), .pointer (some ⟨pb, 0, none⟩), .int .i64 move] w (SwC pn1 cd MV w)) ?_ ?_ ?_ ?_
 ·intro e
  exact l05Move_err rb pb move 1 rfl w (fun u hu => code_invalid p s c l st sk re fe ag _ _ _ _ _ _ _ xs ys rb pb move u (hr.below hu) (hq.below hu) (h.below hu) (hk.trans e))
 ·intro e hm
  exact l05Move_err rb pb move 2 rfl w (fun u hu => code_range p s c l st sk re fe ag _ _ _ _ _ _ _ xs ys rb pb move u (hr.below hu) (hq.below hu) (h.below hu) (hk.trans e) hm)
 ·intro e m0 m1 F hF hf he
  exact l05Move_err rb pb move 6 rfl w (fun u hu => code_empty p s c l st sk re fe ag _ _ _ _ _ _ _ xs ys rb pb move u (hr.below hu) (hq.below hu) (h.below hu) (hk.trans e) F hF hf m0 m1 he)
 ·intro e m0 m1 F hF hf he MV hMV
  have hk1 := hk.trans e
  obtain ⟨rfl, hpl⟩ := pl_of_ok hk1
  have hC : Calls Try.prog 68 #[.pointer (some ⟨rb, 0, none⟩), .pointer (some ⟨pb, 0, none⟩), .int .i64 move] w (SwC pn1 10 MV w) := by
   rcases hpl with rfl | rfl
   ·exact l05Move_yes0 p s c l st sk re fe ag p1 p2 pn1 pc1 pc2 xs ys F rb pb move w hr hq h hk1 hF hf m0 m1 he MV hMV
   ·exact l05Move_yes1 p s c l st sk re fe ag p1 p2 pn1 pc1 pc2 xs ys F rb pb move w hr hq h hk1 hF hf m0 m1 he MV hMV
  cases MV
  ·exact hC
  ·exact hC
def SoV (n1 : Nat) (cd : Int) (MV : Option Res) (w : World) (e : Ending) (w' : World) : Prop :=
 match MV with
 | none => SoZ 0 0 0 0 cd [] [] w e w'
 | some m => SoZ n1 2 m.last m.laps 0 m.xs m.ys w e w'
theorem implMove_any (p s c l : Int) (st sk re fe ag : Bool) (p1 p2 : Option Addr) (pn1 pc1 pn2 pc2 : Nat) (pp : Int) (xs ys : List Int) (move : Int) (w : World) (h : PosR w p1 p2 pn1 pn2 xs ys) (k : Bool) (hk : okP (okR p s c l st ag) p pn1 pn2 pp xs ys = k) :
  Calls Try.prog 73 #[.agg #[.int .i64 p, .int .i64 s, .bool st, .bool sk, .bool re, .bool fe, .bool ag, .int .i64 c, .int .i64 l], .agg #[.slice p1 pn1 pc1, .slice p2 pn2 pc2, .int .i64 pp], .int .i64 move] w (SoV pn1 (mvCd k p pp st sk re xs ys move) (mvV k p pp st sk re xs ys move) w) := by
 refine mv_cases (sk := sk) (re := re) hk h.l1 move (fun cd MV => Calls Try.prog 73 #[.agg #[.int .i64 p, .int .i64 s, .bool st, .bool sk, .bool re, .bool fe, .bool ag, .int .i64 c, .int .i64 l], .agg #[.slice p1 pn1 pc1, .slice p2 pn2 pc2, .int .i64 pp], .int .i64 move] w (SoV pn1 cd MV w)) ?_ ?_ ?_ ?_
 ·intro e
  exact implMove_err p s c l st sk re fe ag p1 p2 pn1 pc1 pn2 pc2 pp move 1 rfl w (fun u hu => begin_invalid p s c l st sk re fe ag _ _ _ _ _ _ _ xs ys move u (h.below hu) (hk.trans e))
 ·intro e hm
  exact implMove_err p s c l st sk re fe ag p1 p2 pn1 pc1 pn2 pc2 pp move 2 rfl w (fun u hu => begin_range p s c l st sk re fe ag _ _ _ _ _ _ _ xs ys move u (h.below hu) (hk.trans e) hm)
 ·intro e m0 m1 F hF hf he
  exact implMove_err p s c l st sk re fe ag p1 p2 pn1 pc1 pn2 pc2 pp move 6 rfl w (fun u hu => begin_empty p s c l st sk re fe ag _ _ _ _ _ _ _ xs ys move u (h.below hu) (hk.trans e) F hF hf m0 m1 he)
 ·intro e m0 m1 F hF hf he MV hMV
  have hk1 := hk.trans e
  obtain ⟨rfl, hpl⟩ := pl_of_ok hk1
  have hC : Calls Try.prog 73 #[.agg #[.int .i64 p, .int .i64 s, .bool st, .bool sk, .bool re, .bool fe, .bool ag, .int .i64 c, .int .i64 l], .agg #[.slice p1 pn1 pc1, .slice p2 2 pc2, .int .i64 pp], .int .i64 move] w (MvQ pn1 MV w) := by
   rcases hpl with rfl | rfl
   ·exact implMove0 p s c l st sk re fe ag p1 p2 pn1 pc1 2 pc2 xs ys move w h hk1 F hF hf m0 m1 he MV hMV
   ·exact implMove1 p s c l st sk re fe ag p1 p2 pn1 pc1 2 pc2 xs ys move w h hk1 F hF hf m0 m1 he MV hMV
  cases MV
  ·exact hC
  ·exact hC
/- Tk6 -/
theorem fin_of {p s c l pp : Int} {st sk re ag : Bool} {n1 n2 : Nat} {xs ys : List Int} {F : Nat} (hk : okP (okR p s c l st ag) p n1 n2 pp xs ys = true) (l1 : xs.length = n1) (l2 : ys.length = n2) (hF : F < n1) (he : xs.getD F 0 ≠ 0) {m : Res} (h : mvF ⟨p, pp, st, sk, re⟩ 100 xs ys F 0 [] = some m) :
  Fin ⟨p, pp, st, sk, re⟩ (tot xs + tot ys) ys m := by
 obtain ⟨q1, -, -, q4, -⟩ := okP_parts hk
 obtain ⟨r1, r2, -⟩ := okR_bd q1
 exact mvF_fin ⟨r1, r2, by show pp = 0 ∨ pp = 1; omega⟩ (lap_of_ok hk l1 l2 hF he) (way_start _ _) (by omega) h
theorem mvV_fin {p s c l pp : Int} {st sk re ag : Bool} {n1 n2 : Nat} {xs ys : List Int} {k : Bool} (hk : okP (okR p s c l st ag) p n1 n2 pp xs ys = k) (l1 : xs.length = n1) (l2 : ys.length = n2) {move : Int} {m : Res} (h : mvV k p pp st sk re xs ys move = some m) :
  k = true ∧ 0 ≤ move ∧ move < p ∧ mvCd k p pp st sk re xs ys move = 0 ∧ Fin ⟨p, pp, st, sk, re⟩ (tot xs + tot ys) ys m := by
 refine mv_cases (sk := sk) (re := re) hk l1 move (fun cd MV => MV = some m → k = true ∧ 0 ≤ move ∧ move < p ∧ cd = 0 ∧ Fin ⟨p, pp, st, sk, re⟩ (tot xs + tot ys) ys m) ?_ ?_ ?_ ?_ h
 ·intro _ e; cases e
 ·intro _ _ e; cases e
 ·intro _ _ _ _ _ _ _ e; cases e
 ·rintro e m0 m1 F hF hf he MV hMV rfl
  exact ⟨e, m0, m1, rfl, fin_of (hk.trans e) l1 l2 hF he hMV⟩
theorem mvV_none {p s c l pp : Int} {st sk re ag : Bool} {n1 n2 : Nat} {xs ys : List Int} {k : Bool} (hk : okP (okR p s c l st ag) p n1 n2 pp xs ys = k) (l1 : xs.length = n1) {move : Int} (h : mvV k p pp st sk re xs ys move = none) :
  mvCd k p pp st sk re xs ys move = 1 ∨ mvCd k p pp st sk re xs ys move = 2 ∨ mvCd k p pp st sk re xs ys move = 6 ∨ mvCd k p pp st sk re xs ys move = 10 := by
 refine mv_cases (sk := sk) (re := re) hk l1 move (fun cd MV => MV = none → cd = 1 ∨ cd = 2 ∨ cd = 6 ∨ cd = 10) ?_ ?_ ?_ ?_ h
 ·intros; omega
 ·intros; omega
 ·intros; omega
 ·rintro e m0 m1 F hF hf he MV hMV rfl
  exact .inr (.inr (.inr rfl))
theorem good_fin (p s c l : Int) (st sk re fe ag : Bool) {pp t : Int} {n1 : Nat} {y0 : List Int} {m : Res} {xs ys : List Int} {n2 : Nat} (hk : okP (okR p s c l st ag) p n1 n2 pp xs ys = true) (f : Fin ⟨p, pp, st, sk, re⟩ (tot xs + tot ys) y0 m) : Good p s c l st sk re fe ag pp n1 2 m.last m.xs m.ys ∧ m.xs.length = n1 ∧ m.ys.length = 2 := by
 obtain ⟨k1, k2, k3, k4, k5⟩ := okP_parts hk
 obtain ⟨m1, m2, -, -, m5, m6, -⟩ := okR_bd k1
 obtain ⟨s1, s2, s3⟩ := seedB_parts k5
 have ht := f.brd.tot
 have hx : (m.xs.length : Int) = 2 * p := f.brd.lx
 exact ⟨⟨k1, ⟨m1, m2⟩, ⟨m5, m6⟩, k2, rfl, by omega, f.brd.px, f.brd.py, by omega, f.lo, f.hi⟩, by omega, f.brd.ly⟩
def fbS (c l p pp : Int) (m : Res) : Bool := decide (l = 1) && slamF c p pp m.last m.xs
def fbF (c l p pp : Int) (fe : Bool) (xs : List Int) (m : Res) : Bool := (fe && noneO p pp xs) && noneO p pp (tkX c l p pp m.last m.xs)
def illB (c l p pp : Int) (fe : Bool) (xs : List Int) (m : Res) : Bool := fbS c l p pp m || fbF c l p pp fe xs m
def lgV (c l p pp : Int) (fe : Bool) (xs : List Int) (MV : Option Res) : Option Res :=
 match MV with
 | none => none
 | some m => if illB c l p pp fe xs m then none else some m
def lgC (c l p pp : Int) (fe : Bool) (xs : List Int) (cd : Int) (MV : Option Res) : Int :=
 match MV with
 | none => cd
 | some m => if illB c l p pp fe xs m then 9 else 0
def agV (ag : Bool) (m : Res) : Bool := ag && decide (m.last = -1)
def gnV (c l p pp : Int) (ys : List Int) (m : Res) : Int := (tkY c l p pp m.last m.xs m.ys).getD pp.toNat 0 - ys.getD pp.toNat 0
def nxV (ag : Bool) (pp : Int) (m : Res) : Int := if agV ag m then pp else 1 - pp
/- Rm7 -/
theorem quiet_sR {P : Program} {f : FuncId} {args : Array Value} {W w : World} {v : Value} (h : Calls P f args W (Still v W)) (hw : ∃ m, W = w.drewN m) :
  Calls P f args W fun e w'' => e = .returned v ∧ ∃ m, w'' = w.drewN m := h.mono fun _ _ ⟨he, m, hm⟩ => ⟨he, by
   obtain ⟨k, hk⟩ := hw
   exact ⟨k + m, by rw [hm, hk, World.drewN_drewN]⟩⟩
structure Z6 (u : World) (z : Nat) : Prop where
 lt : z < u.heap.size
 c0 : u.cell? ⟨z, 0, none⟩ = some (.int .i64 0)
 c1 : u.cell? ⟨z, 1, none⟩ = some (.int .i64 0)
 c2 : u.cell? ⟨z, 2, none⟩ = some (.bool false)
 c3 : u.cell? ⟨z, 3, none⟩ = some (.slice none 0 0)
 c4 : u.cell? ⟨z, 4, none⟩ = some (.slice none 0 0)
 c5 : u.cell? ⟨z, 5, none⟩ = some (.int .i64 0)
 fr : ∀ o, u.frozen? ⟨z, o, none⟩ = false
theorem Z6.below {u v : World} {z : Nat} (h : Z6 u z) (k : Below u.heap.size u v) : Z6 v z := by
 have e := fun o => k.cell (p := ⟨z, o, none⟩) h.lt
 exact ⟨Nat.lt_of_lt_of_le h.lt k.size, (e _).trans h.c0, (e _).trans h.c1, (e _).trans h.c2, (e _).trans h.c3, (e _).trans h.c4, (e _).trans h.c5, fun o => (k.frozen (p := ⟨z, o, none⟩) h.lt).trans (h.fr o)⟩
theorem z6_new (w : World) (T : TypeId) : Z6 (w.alloc (.cells #[.int .i64 0, .int .i64 0, .bool false, .slice none 0 0, .slice none 0 0, .int .i64 0] T)) w.heap.size :=
 ⟨by simp, by go_simp, by go_simp, by go_simp, by go_simp, by go_simp, by go_simp, fun o => by go_simp⟩
theorem below6 {B z : Nat} {w u : World} (h : Below B w u) (hz : B ≤ z) (x0 x1 x2 x3 x4 x5 : Value) : Below B w ((((((u.setCell ⟨z, 0, none⟩ x0).setCell ⟨z, 1, none⟩ x1).setCell ⟨z, 2, none⟩ x2).setCell ⟨z, 3, none⟩ x3).setCell ⟨z, 4, none⟩ x4).setCell ⟨z, 5, none⟩ x5) :=
 ((((((h.setCell (p := ⟨z, 0, none⟩) hz x0).setCell (p := ⟨z, 1, none⟩) hz x1).setCell (p := ⟨z, 2, none⟩) hz x2).setCell (p := ⟨z, 3, none⟩) hz x3).setCell (p := ⟨z, 4, none⟩) hz x4).setCell (p := ⟨z, 5, none⟩) hz x5)
def MrE (cd : Int) (w : World) (e : Ending) (w' : World) : Prop := e = .returned (.tuple #[.agg #[.int .i64 0, .int .i64 0, .bool false, .slice none 0 0, .slice none 0 0, .int .i64 0], .int .i64 cd]) ∧ Below w.heap.size w w'
def LkAt (w : World) (rb pb s0 : Nat) (p s c l : Int) (st sk re fe ag : Bool) (p1 p2 : Option Addr) (pn1 pc1 pn2 pc2 : Nat) (pp : Int) (s1 s2 : Option Addr) (sn1 sc1 sn2 sc2 : Nat) (sp sq : Int) (u : World) : Prop := RuAt u rb p s c l st sk re fe ag ∧ PoAt u pb p1 p2 pn1 pc1 pn2 pc2 pp ∧ SoAt u s0 s1 s2 sn1 sc1 sn2 sc2 sp sq ∧ OnW w u
section
variable {w u v : World} {rb pb s0 : Nat} {p s c l : Int} {st sk re fe ag : Bool} {p1 p2 : Option Addr} {pn1 pc1 pn2 pc2 : Nat} {pp : Int} {s1 s2 : Option Addr} {sn1 sc1 sn2 sc2 : Nat} {sp sq : Int}
theorem LkAt.below (h : LkAt w rb pb s0 p s c l st sk re fe ag p1 p2 pn1 pc1 pn2 pc2 pp s1 s2 sn1 sc1 sn2 sc2 sp sq u) (k : Below u.heap.size u v) : LkAt w rb pb s0 p s c l st sk re fe ag p1 p2 pn1 pc1 pn2 pc2 pp s1 s2 sn1 sc1 sn2 sc2 sp sq v :=
 ⟨h.1.below k, h.2.1.below k, h.2.2.1.below k, Below.trans h.2.2.2 (Below.mono k (Below.size h.2.2.2))⟩
theorem LkAt.be (h : LkAt w rb pb s0 p s c l st sk re fe ag p1 p2 pn1 pc1 pn2 pc2 pp s1 s2 sn1 sc1 sn2 sc2 sp sq u) : OnW w u := h.2.2.2
end
structure Ot6 (u : World) (z : Nat) (mv gn : Int) (b : Bool) (v3 v4 v5 : Value) : Prop where
 lt : z < u.heap.size
 c0 : u.cell? ⟨z, 0, none⟩ = some (.int .i64 mv)
 c1 : u.cell? ⟨z, 1, none⟩ = some (.int .i64 gn)
 c2 : u.cell? ⟨z, 2, none⟩ = some (.bool b)
 c3 : u.cell? ⟨z, 3, none⟩ = some v3
 c4 : u.cell? ⟨z, 4, none⟩ = some v4
 c5 : u.cell? ⟨z, 5, none⟩ = some v5
 fr : ∀ o, u.frozen? ⟨z, o, none⟩ = false
theorem but3o (z : Nat) (u : World) (x y t : Value) : But z u (((u.setCell ⟨z, 3, none⟩ x).setCell ⟨z, 4, none⟩ y).setCell ⟨z, 5, none⟩ t) :=
 (((But.refl z u).setCell (p := ⟨z, 3, none⟩) rfl x).setCell (p := ⟨z, 4, none⟩) rfl y).setCell (p := ⟨z, 5, none⟩) rfl t
theorem but6 (z : Nat) (u : World) (x0 x1 x2 x3 x4 x5 : Value) : But z u ((((((u.setCell ⟨z, 0, none⟩ x0).setCell ⟨z, 1, none⟩ x1).setCell ⟨z, 2, none⟩ x2).setCell ⟨z, 3, none⟩ x3).setCell ⟨z, 4, none⟩ x4).setCell ⟨z, 5, none⟩ x5) :=
 ((((((But.refl z u).setCell (p := ⟨z, 0, none⟩) rfl x0).setCell (p := ⟨z, 1, none⟩) rfl x1).setCell (p := ⟨z, 2, none⟩) rfl x2).setCell (p := ⟨z, 3, none⟩) rfl x3).setCell (p := ⟨z, 4, none⟩) rfl x4).setCell (p := ⟨z, 5, none⟩) rfl x5
theorem Z6.but {u v : World} {z b : Nat} (h : Z6 u z) (k : But b u v) (hb : z ≠ b) : Z6 v z := by
 have e := fun o => k.cell (o := o) h.lt hb
 exact ⟨Nat.lt_of_lt_of_le h.lt k.size, (e _).trans h.c0, (e _).trans h.c1, (e _).trans h.c2, (e _).trans h.c3, (e _).trans h.c4, (e _).trans h.c5, fun o => (k.frozen h.lt hb).trans (h.fr o)⟩
theorem ot6_next {u : World} {z : Nat} {mv gn : Int} {b : Bool} {v3 v4 v5 : Value} (h : Ot6 u z mv gn b v3 v4 v5) (x y t : Value) : Ot6 (((u.setCell ⟨z, 3, none⟩ x).setCell ⟨z, 4, none⟩ y).setCell ⟨z, 5, none⟩ t) z mv gn b x y t := by
 obtain ⟨zl, z0, z1, z2, z3, z4, z5, zf⟩ := h
 have f3 := zf 3
 have f4 := zf 4
 have f5 := zf 5
 exact ⟨by simpa using zl, by go_simp, by go_simp, by go_simp, by go_simp, by go_simp, by go_simp, fun o => by have := zf o; go_simp⟩
theorem Ot6.drew {u : World} {z : Nat} {mv gn : Int} {b : Bool} {v3 v4 v5 : Value} (h : Ot6 u z mv gn b v3 v4 v5) : Ot6 u.drew z mv gn b v3 v4 v5 := ⟨h.lt, h.c0, h.c1, h.c2, h.c3, h.c4, h.c5, h.fr⟩
theorem ot6_new (w : World) (T : TypeId) (mv gn : Int) (b : Bool) (v3 v4 v5 : Value) : Ot6 (w.alloc (.cells #[.int .i64 mv, .int .i64 gn, .bool b, v3, v4, v5] T)) w.heap.size mv gn b v3 v4 v5 :=
 ⟨by simp, by go_simp, by go_simp, by go_simp, by go_simp, by go_simp, by go_simp, fun o => by go_simp⟩
def Kp6 (w : World) (rb pb t0 : Nat) (p s c l : Int) (st sk re fe ag : Bool) (p1 p2 : Option Addr) (pn1 pc1 pn2 pc2 : Nat) (pp : Int) (t1 t2 : Option Addr) (tn1 tc1 tn2 tc2 : Nat) (tp tq : Int) (xs ys us vs : List Int) (g1 g2 : Nat) (u : World) : Prop :=
 LkAt w rb pb t0 p s c l st sk re fe ag p1 p2 pn1 pc1 pn2 pc2 pp t1 t2 tn1 tc1 tn2 tc2 tp tq u ∧ Z6 u w.heap.size ∧ PosR u p1 p2 pn1 pn2 xs ys ∧ PosO u (w.heap.size + 1) t1 t2 g1 g2 tn1 tn2 us vs ∧ w.heap.size < t0
section
variable {w u v : World} {rb pb t0 : Nat} {p s c l : Int} {st sk re fe ag : Bool} {p1 p2 : Option Addr} {pn1 pc1 pn2 pc2 : Nat} {pp : Int} {t1 t2 : Option Addr} {tn1 tc1 tn2 tc2 : Nat} {tp tq : Int} {xs ys us vs : List Int} {g1 g2 : Nat}
theorem Kp6.below (h : Kp6 w rb pb t0 p s c l st sk re fe ag p1 p2 pn1 pc1 pn2 pc2 pp t1 t2 tn1 tc1 tn2 tc2 tp tq xs ys us vs g1 g2 u) (k : Below u.heap.size u v) : Kp6 w rb pb t0 p s c l st sk re fe ag p1 p2 pn1 pc1 pn2 pc2 pp t1 t2 tn1 tc1 tn2 tc2 tp tq xs ys us vs g1 g2 v :=
 ⟨h.1.below k, h.2.1.below k, h.2.2.1.below k, h.2.2.2.1.below k, h.2.2.2.2⟩
theorem Kp6.drew (h : Kp6 w rb pb t0 p s c l st sk re fe ag p1 p2 pn1 pc1 pn2 pc2 pp t1 t2 tn1 tc1 tn2 tc2 tp tq xs ys us vs g1 g2 u) : Kp6 w rb pb t0 p s c l st sk re fe ag p1 p2 pn1 pc1 pn2 pc2 pp t1 t2 tn1 tc1 tn2 tc2 tp tq xs ys us vs g1 g2 u.drew := h.below (Below.refl _ _).drew
end
def MrL (c l p pp : Int) (ag : Bool) (pn1 : Nat) (xs ys : List Int) (move : Int) (m : Res) (b : Bool) (w : World) (e : Ending) (w' : World) : Prop :=
 if b = true then MrE 9 w e w' else
 ∃ g1 k1 g2 k2, e = .returned (.tuple #[.agg #[.int .i64 move, .int .i64 (gnV c l p pp ys m), .bool (agV ag m), .slice (some ⟨g1, 0, none⟩) pn1 k1, .slice (some ⟨g2, 0, none⟩) 2 k2, .int .i64 (nxV ag pp m)], .int .i64 0]) ∧
  PosO w' w.heap.size (some ⟨g1, 0, none⟩) (some ⟨g2, 0, none⟩) g1 g2 pn1 2 (tkX c l p pp m.last m.xs) (tkY c l p pp m.last m.xs m.ys) ∧ g1 < w'.heap.size ∧ g2 < w'.heap.size ∧ pn1 ≤ k1 ∧ 2 ≤ k2 ∧ Below w.heap.size w w'
theorem mrL_leg {c l p pp : Int} {ag : Bool} {pn1 : Nat} {xs ys : List Int} {move : Int} {m : Res} {w u : World} {g1 k1 g2 k2 : Nat} {gn nx : Int} {b : Bool} (hg : gnV c l p pp ys m = gn) (hb : agV ag m = b) (hn : nxV ag pp m = nx)
  (ho : PosO u w.heap.size (some ⟨g1, 0, none⟩) (some ⟨g2, 0, none⟩) g1 g2 pn1 2 (tkX c l p pp m.last m.xs) (tkY c l p pp m.last m.xs m.ys)) (h1 : g1 < u.heap.size) (h2 : g2 < u.heap.size) (h3 : pn1 ≤ k1) (h4 : 2 ≤ k2) (h : OnW w u) :
  MrL c l p pp ag pn1 xs ys move m false w (.returned (.tuple #[.agg #[.int .i64 move, .int .i64 gn, .bool b, .slice (some ⟨g1, 0, none⟩) pn1 k1, .slice (some ⟨g2, 0, none⟩) 2 k2, .int .i64 nx], .int .i64 0])) u := by
 unfold MrL
 rw [if_neg Bool.false_ne_true, hg, hb, hn]
 exact ⟨g1, k1, g2, k2, rfl, ho, h1, h2, h3, h4, h⟩
theorem mrL_ill {c l p pp : Int} {ag : Bool} {pn1 : Nat} {xs ys : List Int} {move : Int} {m : Res} {w u : World} (h : OnW w u) : MrL c l p pp ag pn1 xs ys move m true w (.returned (.tuple #[.agg #[.int .i64 0, .int .i64 0, .bool false, .slice none 0 0, .slice none 0 0, .int .i64 0], .int .i64 9])) u := by
 unfold MrL
 rw [if_pos rfl]
 exact ⟨rfl, h⟩
theorem l07Make_err (p s c l : Int) (st sk re fe ag : Bool) (rb pb n1 : Nat) (move cd : Int) (hcd : (cd == 0) = false) (w : World) (hC : ∀ u, Below w.heap.size w u → Calls Try.prog 68 #[.pointer (some ⟨rb, 0, none⟩), .pointer (some ⟨pb, 0, none⟩), .int .i64 move] u (SwC n1 cd none u)) :
  Calls Try.prog 60 #[.pointer (some ⟨rb, 0, none⟩), .pointer (some ⟨pb, 0, none⟩), .int .i64 move] w (MrE cd w) := by
 have HC := Lib.hid hC
 have HB := Lib.hid (al1 w (.cells #[.int .i64 0, .int .i64 0, .bool false, .slice none 0 0, .slice none 0 0, .int .i64 0] 94))
 have HZ := Lib.hid (z6_new w 94)
 have hcd2 : (cd != 0) = true := by simpa [bne] using hcd
 clear hC
 go_enter Try.func60, Try.ntmps60
 go_wp2_with fail
 refine (HC.out _ HB.out).mono ?_
 generalize w.alloc (.cells #[.int .i64 0, .int .i64 0, .bool false, .slice none 0 0, .slice none 0 0, .int .i64 0] 94) = u at *
 rintro e u2 ⟨rfl, hb⟩
 have HB2 := Lib.hid (show OnW w u2 from Below.trans HB.out (Below.mono hb HB.out.size))
 have HZ2 := Lib.hid (HZ.out.below hb)
 obtain ⟨zl, z0, z1, z2, z3, z4, z5, zf⟩ := HZ2.out
 have f0 := zf 0
 have f1 := zf 1
 have f2 := zf 2
 have f3 := zf 3
 have f4 := zf 4
 have f5 := zf 5
 have hne : u2.heap.size ≠ w.heap.size := by omega
 have hne' : w.heap.size ≠ u2.heap.size := by omega
 clear hb zf
 go_wp2_with fail
 refine bodyPost_ret (v := .tuple #[.agg #[.int .i64 0, .int .i64 0, .bool false, .slice none 0 0, .slice none 0 0, .int .i64 0], .int .i64 cd]) (by simp [results, Try.results60, go_sem, z0, z1, z2, z3, z4, z5, zl]) rfl ⟨rfl, ?_⟩
 exact OnW.below (show OnW w _ from below6 HB2.out (Nat.le_refl _) _ _ _ _ _ _) (al1 _ _)
theorem l07Make_some (p s c l : Int) (st sk re fe ag : Bool) (p1 p2 : Option Addr) (pn1 pc1 pc2 : Nat) (pp move : Int) (xs ys : List Int) (rb pb : Nat) (m : Res) (w : World) (hr : RuAt w rb p s c l st sk re fe ag) (hq : PoAt w pb p1 p2 pn1 pc1 2 pc2 pp) (h : PosR w p1 p2 pn1 2 xs ys) (hk : okP (okR p s c l st ag) p pn1 2 pp xs ys = true) (fin : Fin ⟨p, pp, st, sk, re⟩ (tot xs + tot ys) ys m)
  (hC : ∀ u, Below w.heap.size w u → Calls Try.prog 68 #[.pointer (some ⟨rb, 0, none⟩), .pointer (some ⟨pb, 0, none⟩), .int .i64 move] u (SwC pn1 0 (some m) u)) :
  Calls Try.prog 60 #[.pointer (some ⟨rb, 0, none⟩), .pointer (some ⟨pb, 0, none⟩), .int .i64 move] w (MrL c l p pp ag pn1 xs ys move m (illB c l p pp fe xs m) w) := by
 have HC := Lib.hid hC
 have H0 := Lib.hid h
 have Hk := Lib.hid hk
 have HG := Lib.hid (good_fin (t := 0) p s c l st sk re fe ag hk fin)
 have HB := Lib.hid (al1 w (.cells #[.int .i64 0, .int .i64 0, .bool false, .slice none 0 0, .slice none 0 0, .int .i64 0] 94))
 have HZ := Lib.hid (z6_new w 94)
 have HR := Lib.hid hr
 have HQ := Lib.hid hq
 clear hC h hk fin hr hq
 go_enter Try.func60, Try.ntmps60
 go_wp2_with fail
 refine (HC.out _ HB.out).mono ?_
 generalize w.alloc (.cells #[.int .i64 0, .int .i64 0, .bool false, .slice none 0 0, .slice none 0 0, .int .i64 0] 94) = u at *
 rintro e u2 ⟨e1, c1, e2, c2, v, rfl, ho, hl1, hl2, hc1, hc2, hown, hb⟩
 have HB2 := Lib.hid (show OnW w u2 from Below.trans HB.out (Below.mono hb HB.out.size))
 have HZ2 := Lib.hid (HZ.out.below hb)
 have HL := Lib.hid (show LkAt w rb pb u2.heap.size p s c l st sk re fe ag p1 p2 pn1 pc1 2 pc2 pp (some ⟨e1, 0, none⟩) (some ⟨e2, 0, none⟩) pn1 c1 2 c2 m.last m.laps (u2.alloc (.cells #[.slice (some ⟨e1, 0, none⟩) pn1 c1, .slice (some ⟨e2, 0, none⟩) 2 c2, .int .i64 m.last, .int .i64 m.laps] 75)) from ⟨(HR.out.below HB2.out).below (al1 _ _), (HQ.out.below HB2.out).below (al1 _ _), so_new _ _ _ _ _ _ _ _ u2 75, OnW.below HB2.out (al1 _ _)⟩)
 have HZ2 := Lib.hid (HZ2.out.below (al1 u2 (.cells #[.slice (some ⟨e1, 0, none⟩) pn1 c1, .slice (some ⟨e2, 0, none⟩) 2 c2, .int .i64 m.last, .int .i64 m.laps] 75)))
 have HSr := Lib.hid (ho.r.alloc (.cells #[.slice (some ⟨e1, 0, none⟩) pn1 c1, .slice (some ⟨e2, 0, none⟩) 2 c2, .int .i64 m.last, .int .i64 m.laps] 75))
 have hs0w : w.heap.size < u2.heap.size := Nat.lt_of_lt_of_le HZ.out.lt hb.size
 clear hb hown ho hl1 hl2
 go_upto_region 4 with fail
 generalize hU3 : u2.alloc (.cells #[.slice (some ⟨e1, 0, none⟩) pn1 c1, .slice (some ⟨e2, 0, none⟩) 2 c2, .int .i64 m.last, .int .i64 m.laps] 75) = u3 at *
 generalize hS0 : u2.heap.size = s0 at *
 clear hU3 hS0
 go_cut [37] (fun s37 wx => s37 = .bool (fbS c l p pp m) ∧ LkAt w rb pb s0 p s c l st sk re fe ag p1 p2 pn1 pc1 2 pc2 pp (some ⟨e1, 0, none⟩) (some ⟨e2, 0, none⟩) pn1 c1 2 c2 m.last m.laps wx ∧ Z6 wx w.heap.size ∧ PosR wx (some ⟨e1, 0, none⟩) (some ⟨e2, 0, none⟩) pn1 2 m.xs m.ys)
 case first =>
  obtain ⟨_, g0, g1, g2, g3, g4, g5, g6, g7, g8⟩ := HL.out.1
  obtain ⟨_, t0, t1, t2⟩ := HL.out.2.1
  by_cases hl : l = 1
  ·subst hl
   have e0 : fbS c 1 p pp m = slamF c p pp m.last m.xs := by unfold fbS; simp
   have E0 := Lib.hid e0
   clear e0
   go_wp2_with fail
   refine (l06Slam_any p s c 1 st sk re fe ag pp (some ⟨e1, 0, none⟩) (some ⟨e2, 0, none⟩) pn1 c1 2 c2 m.last m.laps m.xs m.ys rb _ _ HL.out.1 HL.out.2.2.1 HSr.out HG.out.1).mono ?_
   rintro e w5 ⟨rfl, hb5⟩
   have HL := Lib.hid (HL.out.below hb5)
   have HZ2 := Lib.hid (HZ2.out.below hb5)
   have HSr := Lib.hid (HSr.out.below hb5)
   clear hb5 g0 g1 g2 g3 g4 g5 g6 g7 g8 t0 t1 t2
   go_wp2_with fail
   go_meet
   exact ⟨by rw [E0.out], HL.out, HZ2.out, HSr.out⟩
  ·have d : (l == 1) = false := by simpa using hl
   have e0 : fbS c l p pp m = false := by unfold fbS; simp [hl]
   have E0 := Lib.hid e0
   clear e0 hl
   go_wp2_with fail
   go_meet
   exact ⟨by rw [E0.out], HL.out, HZ2.out, HSr.out⟩
 case rest =>
  obtain ⟨rfl, hL, hZ, hS⟩ := hcut
  have HL := Lib.hid hL
  have HZ2 := Lib.hid hZ
  have HSr := Lib.hid hS
  clear hL hZ hS
  rcases hfb : fbS c l p pp m with _ | _
  ·have HIl : Hid (illB c l p pp fe xs m = fbF c l p pp fe xs m) := Lib.hid (by unfold illB; rw [hfb, Bool.false_or])
   clear hfb
   obtain ⟨_, t0, t1, t2⟩ := HL.out.2.1
   have hww : w.heap.size + 1 ≤ wc.heap.size := HZ2.out.lt
   go_wp2_with fail
   refine (l06Take_any p s c l st sk re fe ag pp _ _ pn1 c1 c2 m.last m.laps m.xs m.ys rb _ wc HL.out.1 HL.out.2.2.1 HSr.out HG.out.1).mono ?_
   rintro e w5 ⟨k1, kc1, k2, kc2, rfl, hto, htl1, htl2, htc1, htc2, hb5⟩
   have HL := Lib.hid (HL.out.below hb5)
   have HZ2 := Lib.hid (HZ2.out.below hb5)
   have hwc : w.heap.size < w5.heap.size := HZ2.out.lt
   have HO := Lib.hid (show PosO w5 (w.heap.size + 1) _ _ _ _ _ _ _ _ from PosO.lower hto hww)
   have HKp := Lib.hid (show Kp6 w rb pb w5.heap.size p s c l st sk re fe ag p1 p2 pn1 pc1 2 pc2 pp (some ⟨k1, 0, none⟩) (some ⟨k2, 0, none⟩) pn1 kc1 2 kc2 m.last m.laps xs ys (tkX c l p pp m.last m.xs) (tkY c l p pp m.last m.xs m.ys) k1 k2 (w5.alloc (.cells #[.slice (some ⟨k1, 0, none⟩) pn1 kc1, .slice (some ⟨k2, 0, none⟩) 2 kc2, .int .i64 m.last, .int .i64 m.laps] 75)) from
    ⟨⟨HL.out.1.below (al1 _ _), HL.out.2.1.below (al1 _ _), so_new _ _ _ _ _ _ _ _ w5 75, OnW.below HL.out.be (al1 _ _)⟩, HZ2.out.below (al1 _ _), (H0.out.below HL.out.be).below (al1 _ _), HO.out.below (al1 _ _), hwc⟩)
   clear HL HZ2 HSr HO H0 hto hb5 HB2 HZ HB t0 t1 t2 HR HQ HC
   go_upto_region 7 with fail
   generalize hT : w5.heap.size = T0 at *
   generalize w5.alloc (.cells #[.slice (some ⟨k1, 0, none⟩) pn1 kc1, .slice (some ⟨k2, 0, none⟩) 2 kc2, .int .i64 m.last, .int .i64 m.laps] 75) = w8 at *
   clear hT
   have hw1 : IntKind.i64.wrap (1 - pp) = 1 - pp := IntWalk.i64_in _ ⟨by have := HG.out.1.pl; omega, by have := HG.out.1.pl; omega⟩
   go_cut [59] (fun s59 wx => s59 = .bool (fbF c l p pp fe xs m) ∧ Kp6 w rb pb T0 p s c l st sk re fe ag p1 p2 pn1 pc1 2 pc2 pp (some ⟨k1, 0, none⟩) (some ⟨k2, 0, none⟩) pn1 kc1 2 kc2 m.last m.laps xs ys (tkX c l p pp m.last m.xs) (tkY c l p pp m.last m.xs m.ys) k1 k2 wx ∧ k1 < wx.heap.size ∧ k2 < wx.heap.size)
   case first =>
    have HFd : Hid (∀ q, Calls Try.prog 71 #[.pointer (some ⟨rb, 0, none⟩), .pointer (some ⟨pb, 0, none⟩)] (w8.drewN q) (Still (.bool (fe && noneO p pp xs)) (w8.drewN q))) := Lib.hid (fun q => l07Feed_any p s c l st sk re fe ag p1 p2 pn1 pc1 2 pc2 pp xs ys rb pb (w8.drewN q) (HKp.out.1.1.below (below_dn (Below.refl _ _) q)) (HKp.out.1.2.1.below (below_dn (Below.refl _ _) q)) (HKp.out.2.2.1.below (below_dn (Below.refl _ _) q)) Hk.out)
    have hsum := HG.out.1.sum HG.out.2.1
    have ht1 := HG.out.1.t1
    have HSd : Hid (∀ q, Calls Try.prog 72 #[.pointer (some ⟨rb, 0, none⟩), .slice (some ⟨k1, 0, none⟩) pn1 kc1, .int .i64 (1 - pp)] (w8.drewN q) fun e w' => e = .returned (.int .i64 (tot (halfL (tkX c l p pp m.last m.xs) p.toNat (1 - pp)))) ∧ w8.drewN q = w') := Lib.hid (fun q => l04Side_p p rb (some ⟨k1, 0, none⟩) kc1 pn1 (tkX c l p pp m.last m.xs) (1 - pp) (w8.drewN q) (HKp.out.1.1.below (below_dn (Below.refl _ _) q)).2.1 (tkX_len.trans HG.out.2.1) (HKp.out.2.2.2.1.o1.row.drewN q) HG.out.1.p2 HG.out.1.n1 (by have := HG.out.1.pl; omega) (HG.out.1.tk HG.out.2.1 HG.out.2.2).1 (by omega))
    have HFF : Hid (fbF c l p pp fe xs m = ((fe && noneO p pp xs) && (tot (halfL (tkX c l p pp m.last m.xs) p.toNat (1 - pp)) == 0))) := Lib.hid rfl
    generalize (fe && noneO p pp xs) = b1 at *
    generalize tot (halfL (tkX c l p pp m.last m.xs) p.toNat (1 - pp)) = TT at *
    obtain ⟨_, t0, t1, t2⟩ := HKp.out.1.2.1
    obtain ⟨_, q0, q1, q2, q3⟩ := HKp.out.1.2.2.1
    clear hsum ht1
    cases b1
    ·go_quiet ((go_at_call 71; exact quiet_sR (HFd.out _) ⟨_, rfl⟩))
     go_wp2_with fail
     go_meet
     exact ⟨by rw [HFF.out]; rfl, HKp.out.below (below_dn (Below.refl _ _) _), Nat.lt_trans htl1 HKp.out.1.2.2.1.1, Nat.lt_trans htl2 HKp.out.1.2.2.1.1⟩
    ·by_cases h0 : TT = 0
     ·have d0 : (TT == 0) = true := by simpa using h0
      have HF1 : Hid (fbF c l p pp fe xs m = true) := Lib.hid (by rw [HFF.out, h0]; rfl)
      clear h0
      go_quiet ((first | (go_at_call 71; exact quiet_sR (HFd.out _) ⟨_, rfl⟩) | (go_at_call 72; exact quiet_w (HSd.out _) ⟨_, rfl⟩)))
      go_wp2_with fail
      go_meet
      exact ⟨by rw [HF1.out], HKp.out.below (below_dn (Below.refl _ _) _), Nat.lt_trans htl1 HKp.out.1.2.2.1.1, Nat.lt_trans htl2 HKp.out.1.2.2.1.1⟩
     ·have d0 : (TT == 0) = false := by simpa using h0
      have HF1 : Hid (fbF c l p pp fe xs m = false) := Lib.hid (by rw [HFF.out]; simp [h0])
      clear h0
      go_quiet ((first | (go_at_call 71; exact quiet_sR (HFd.out _) ⟨_, rfl⟩) | (go_at_call 72; exact quiet_w (HSd.out _) ⟨_, rfl⟩)))
      go_wp2_with fail
      go_meet
      exact ⟨by rw [HF1.out], HKp.out.below (below_dn (Below.refl _ _) _), Nat.lt_trans htl1 HKp.out.1.2.2.1.1, Nat.lt_trans htl2 HKp.out.1.2.2.1.1⟩
   case rest =>
    obtain ⟨rfl, hKp, hl1, hl2⟩ := hcut
    have HKp := Lib.hid hKp
    clear hKp
    rcases hfF : fbF c l p pp fe xs m with _ | _
    ·rw [hfF] at HIl
     clear hfF
     go_upto_region 9 with fail
     obtain ⟨P, hP⟩ : ∃ P : Nat, pp = (P : Int) := ⟨pp.toNat, by have := HG.out.1.pl; omega⟩
     have hP2 : P < 2 := by have := HG.out.1.pl; omega
     have hv : (tkY c l p pp m.last m.xs m.ys)[P]? = some ((tkY c l p pp m.last m.xs m.ys).getD P 0) := getD_at (by rw [tkY_len, HG.out.2.2]; exact hP2)
     have hz : ys[P]? = some (ys.getD P 0) := getD_at (by rw [HKp.out.2.2.1.l2]; exact hP2)
     obtain ⟨g', o', rfl, hgl', hcs'⟩ := HKp.out.2.2.1.r2.2.resolve_left (by intro e; subst e; cases hz)
     have hcy := hcs' _ _ hz
     have hct : wc.cell? ⟨k2, P, none⟩ = some (.int .i64 ((tkY c l p pp m.last m.xs m.ys).getD P 0)) := by
      obtain ⟨g, o, e, _, hcs⟩ := HKp.out.2.2.2.1.o2.row.2.resolve_left (by intro e; rw [e] at hv; cases hv)
      cases e
      have := hcs _ _ hv
      simpa using this
     have hyb := (HG.out.1.tk HG.out.2.1 HG.out.2.2)
     have hv0 := posB_getD hyb.2.1 P
     have hv1 := getD_le hyb.2.1 P
     have hv2 := posB_tot hyb.1
     have hy0 := posB_getD (seedB_parts (okP_parts Hk.out).2.2.2.2).2.1 P
     have hy1 := getD_le (seedB_parts (okP_parts Hk.out).2.2.2.2).2.1 P
     have hy2 := posB_tot (seedB_parts (okP_parts Hk.out).2.2.2.2).1
     have hy3 := (seedB_parts (okP_parts Hk.out).2.2.2.2).2.2
     have hx3 := HG.out.1.q3
     have HGn : Hid (gnV c l p pp ys m = (tkY c l p pp m.last m.xs m.ys).getD P 0 - ys.getD P 0) := Lib.hid (by unfold gnV; rw [hP, Int.toNat_natCast])
     generalize htv : (tkY c l p pp m.last m.xs m.ys).getD P 0 = tv at *
     generalize hyv : ys.getD P 0 = yv at *
     have hwg : IntKind.i64.wrap (tv - yv) = tv - yv := IntWalk.i64_in _ ⟨by omega, by omega⟩
     have z0 : (0 : Int) ≤ (P : Int) := by omega
     have z1 : (P : Int) < 2 := by omega
     have HTV := Lib.hid (And.intro htv hyv)
     have HP := Lib.hid hP
     have hT0 := HKp.out.1.2.2.1.1
     have hwT := HKp.out.2.2.2.2
     have hpbl := HKp.out.1.2.1.1
     have hrbl := HKp.out.1.1.1
     have HT : Hid (∀ u : World, OnW wc u → (pb < u.heap.size ∧ u.cell? ⟨pb, 1, none⟩ = some (.slice (some ⟨g', o', none⟩) 2 pc2) ∧ u.cell? ⟨pb, 2, none⟩ = some (.int .i64 P)) ∧ (T0 < u.heap.size ∧ u.cell? ⟨T0, 1, none⟩ = some (.slice (some ⟨k2, 0, none⟩) 2 kc2) ∧ u.cell? ⟨T0, 2, none⟩ = some (.int .i64 m.last)) ∧ (rb < u.heap.size ∧ u.cell? ⟨rb, 6, none⟩ = some (.bool ag)) ∧ u.cell? ⟨k2, P, none⟩ = some (.int .i64 tv) ∧ u.cell? ⟨g', o' + P, none⟩ = some (.int .i64 yv) ∧ Below wc.heap.size wc u) := Lib.hid (fun u hu => by
       have h1 := HKp.out.1.2.1.below hu
       have h2 := HKp.out.1.2.2.1.below hu
       have h3 := HKp.out.1.1.below hu
       rw [hP] at h1
       exact ⟨⟨h1.1, h1.2.2.1, h1.2.2.2⟩, ⟨h2.1, h2.2.2.1, h2.2.2.2.1⟩, ⟨h3.1, h3.2.2.2.2.2.2.2.1⟩, (hu.cell (p := ⟨k2, P, none⟩) hl2).trans hct, (hu.cell (p := ⟨g', o' + P, none⟩) hgl').trans hcy, hu⟩)
     clear hv hz hcs' hcy hct hyb hv0 hv1 hv2 hy0 hy1 hy2 hy3 hx3 htv hyv hP
     have HB8 := Lib.hid (show OnW wc wc from Below.refl _ _)
     go_cut [12] (fun s12 wx => ∃ O : Nat, s12 = .pointer (some ⟨O, 0, none⟩) ∧ wc.heap.size ≤ O ∧ Ot6 wx O move (tv - yv) (ag && decide (m.last = -1)) (.slice none 0 0) (.slice none 0 0) (.int .i64 0) ∧ Below wc.heap.size wc wx)
     case first =>
      cases ag
      ·refine wp_region_noPanic ?_
       refine wp_region_held_drew (S := fun u => (pb < u.heap.size ∧ u.cell? ⟨pb, 1, none⟩ = some (.slice (some ⟨g', o', none⟩) 2 pc2) ∧ u.cell? ⟨pb, 2, none⟩ = some (.int .i64 P)) ∧ (T0 < u.heap.size ∧ u.cell? ⟨T0, 1, none⟩ = some (.slice (some ⟨k2, 0, none⟩) 2 kc2) ∧ u.cell? ⟨T0, 2, none⟩ = some (.int .i64 m.last)) ∧ (rb < u.heap.size ∧ u.cell? ⟨rb, 6, none⟩ = some (.bool false)) ∧ u.cell? ⟨k2, P, none⟩ = some (.int .i64 tv) ∧ u.cell? ⟨g', o' + P, none⟩ = some (.int .i64 yv) ∧ Below wc.heap.size wc u) (by kernel_rfl) (HT.out _ HB8.out.drew) (fun hHeld => ?_)
       refine wpAnyH_take (i := 0) (oi := { dst := some 61, op := Op.move (Operand.tmp 2), type := 2, pos := "l07_moves.go:25", after := #[], guard := none }) (v := .int .i64 move) rfl (by kernel_rfl) (by kernel_rfl) (by kernel_rfl) (fun _ _ _ h => h) (Or.inl ⟨by rfl, fun u hu => by (try dsimp only at hu); go_simp; try with_reducible rfl⟩) hHeld ?_
       simp only [Act.put, List.setIfInBounds_toArray, List.set_cons_zero, List.set_cons_succ]
       refine wpAnyH_take (i := 1) (oi := { dst := some 62, op := Op.fieldAddr 75 (Operand.tmp 11) 1, type := 0, pos := "l07_moves.go:25", after := #[], guard := none }) (v := .pointer (some ⟨T0, 1, none⟩)) rfl (by kernel_rfl) (by kernel_rfl) (by kernel_rfl) (fun _ _ _ h => h) (Or.inl ⟨by rfl, fun u hu => by (try dsimp only at hu); go_simp; try with_reducible rfl⟩) hHeld ?_
       simp only [Act.put, List.setIfInBounds_toArray, List.set_cons_zero, List.set_cons_succ]
       refine wpAnyH_take (i := 2) (oi := { dst := some 63, op := Op.load 24 (Operand.tmp 62), type := 24, pos := "l07_moves.go:25", after := #[{ on := 1, ground := Ground.data }], guard := none }) (v := .slice (some ⟨k2, 0, none⟩) 2 kc2) rfl (by kernel_rfl) (by kernel_rfl) (by kernel_rfl) (fun _ _ _ h => h) (Or.inl ⟨by rfl, fun u hu => by (try dsimp only at hu); go_simp; try with_reducible rfl⟩) hHeld ?_
       simp only [Act.put, List.setIfInBounds_toArray, List.set_cons_zero, List.set_cons_succ]
       refine wpAnyH_take (i := 3) (oi := { dst := some 64, op := Op.move (Operand.tmp 1), type := 64, pos := "l07_moves.go:25", after := #[], guard := none }) (v := .pointer (some ⟨pb, 0, none⟩)) rfl (by kernel_rfl) (by kernel_rfl) (by kernel_rfl) (fun _ _ _ h => h) (Or.inl ⟨by rfl, fun u hu => by (try dsimp only at hu); go_simp; try with_reducible rfl⟩) hHeld ?_
       simp only [Act.put, List.setIfInBounds_toArray, List.set_cons_zero, List.set_cons_succ]
       refine wpAnyH_take (i := 4) (oi := { dst := some 65, op := Op.nilCheck (Operand.tmp 64), type := 0, pos := "l07_moves.go:25", after := #[{ on := 3, ground := Ground.data }], guard := none }) (v := .pointer (some ⟨pb, 0, none⟩)) rfl (by kernel_rfl) (by kernel_rfl) (by kernel_rfl) (fun _ _ _ h => h) (Or.inl ⟨by rfl, fun u hu => by (try dsimp only at hu); go_simp; try with_reducible rfl⟩) hHeld ?_
       simp only [Act.put, List.setIfInBounds_toArray, List.set_cons_zero, List.set_cons_succ]
       refine wpAnyH_take (i := 5) (oi := { dst := some 66, op := Op.fieldAddr 32 (Operand.tmp 65) 2, type := 0, pos := "l07_moves.go:25", after := #[{ on := 4, ground := Ground.data }], guard := none }) (v := .pointer (some ⟨pb, 2, none⟩)) rfl (by kernel_rfl) (by kernel_rfl) (by kernel_rfl) (fun _ _ _ h => h) (Or.inl ⟨by rfl, fun u hu => by (try dsimp only at hu); go_simp; try with_reducible rfl⟩) hHeld ?_
       simp only [Act.put, List.setIfInBounds_toArray, List.set_cons_zero, List.set_cons_succ]
       refine wpAnyH_take (i := 6) (oi := { dst := some 67, op := Op.load 2 (Operand.tmp 66), type := 2, pos := "l07_moves.go:25", after := #[{ on := 5, ground := Ground.data }], guard := none }) (v := .int .i64 P) rfl (by kernel_rfl) (by kernel_rfl) (by kernel_rfl) (fun _ _ _ h => h) (Or.inl ⟨by rfl, fun u hu => by (try dsimp only at hu); go_simp; try with_reducible rfl⟩) hHeld ?_
       simp only [Act.put, List.setIfInBounds_toArray, List.set_cons_zero, List.set_cons_succ]
       refine wpAnyH_take (i := 7) (oi := { dst := some 68, op := Op.indexAddr 24 (Operand.tmp 63) (Operand.tmp 67), type := 0, pos := "l07_moves.go:25", after := #[{ on := 2, ground := Ground.data }, { on := 6, ground := Ground.data }], guard := none }) (v := .pointer (some ⟨k2, P, none⟩)) rfl (by kernel_rfl) (by kernel_rfl) (by kernel_rfl) (fun _ _ _ h => h) (Or.inl ⟨by rfl, fun u hu => by (try dsimp only at hu); go_simp; try with_reducible rfl⟩) hHeld ?_
       simp only [Act.put, List.setIfInBounds_toArray, List.set_cons_zero, List.set_cons_succ]
       refine wpAnyH_take (i := 8) (oi := { dst := some 69, op := Op.load 2 (Operand.tmp 68), type := 2, pos := "l07_moves.go:25", after := #[{ on := 7, ground := Ground.data }], guard := none }) (v := .int .i64 tv) rfl (by kernel_rfl) (by kernel_rfl) (by kernel_rfl) (fun _ _ _ h => h) (Or.inl ⟨by rfl, fun u hu => by (try dsimp only at hu); go_simp; try with_reducible rfl⟩) hHeld ?_
       simp only [Act.put, List.setIfInBounds_toArray, List.set_cons_zero, List.set_cons_succ]
       refine wpAnyH_take (i := 9) (oi := { dst := some 70, op := Op.move (Operand.tmp 1), type := 64, pos := "l07_moves.go:25", after := #[], guard := none }) (v := .pointer (some ⟨pb, 0, none⟩)) rfl (by kernel_rfl) (by kernel_rfl) (by kernel_rfl) (fun _ _ _ h => h) (Or.inl ⟨by rfl, fun u hu => by (try dsimp only at hu); go_simp; try with_reducible rfl⟩) hHeld ?_
       simp only [Act.put, List.setIfInBounds_toArray, List.set_cons_zero, List.set_cons_succ]
       refine wpAnyH_take (i := 10) (oi := { dst := some 71, op := Op.nilCheck (Operand.tmp 70), type := 0, pos := "l07_moves.go:25", after := #[{ on := 9, ground := Ground.data }], guard := none }) (v := .pointer (some ⟨pb, 0, none⟩)) rfl (by kernel_rfl) (by kernel_rfl) (by kernel_rfl) (fun _ _ _ h => h) (Or.inl ⟨by rfl, fun u hu => by (try dsimp only at hu); go_simp; try with_reducible rfl⟩) hHeld ?_
       simp only [Act.put, List.setIfInBounds_toArray, List.set_cons_zero, List.set_cons_succ]
       refine wpAnyH_take (i := 11) (oi := { dst := some 72, op := Op.fieldAddr 32 (Operand.tmp 71) 1, type := 0, pos := "l07_moves.go:25", after := #[{ on := 10, ground := Ground.data }], guard := none }) (v := .pointer (some ⟨pb, 1, none⟩)) rfl (by kernel_rfl) (by kernel_rfl) (by kernel_rfl) (fun _ _ _ h => h) (Or.inl ⟨by rfl, fun u hu => by (try dsimp only at hu); go_simp; try with_reducible rfl⟩) hHeld ?_
       simp only [Act.put, List.setIfInBounds_toArray, List.set_cons_zero, List.set_cons_succ]
       refine wpAnyH_take (i := 12) (oi := { dst := some 73, op := Op.load 24 (Operand.tmp 72), type := 24, pos := "l07_moves.go:25", after := #[{ on := 11, ground := Ground.data }], guard := none }) (v := .slice (some ⟨g', o', none⟩) 2 pc2) rfl (by kernel_rfl) (by kernel_rfl) (by kernel_rfl) (fun _ _ _ h => h) (Or.inl ⟨by rfl, fun u hu => by (try dsimp only at hu); go_simp; try with_reducible rfl⟩) hHeld ?_
       simp only [Act.put, List.setIfInBounds_toArray, List.set_cons_zero, List.set_cons_succ]
       refine wpAnyH_take (i := 13) (oi := { dst := some 74, op := Op.move (Operand.tmp 1), type := 64, pos := "l07_moves.go:25", after := #[], guard := none }) (v := .pointer (some ⟨pb, 0, none⟩)) rfl (by kernel_rfl) (by kernel_rfl) (by kernel_rfl) (fun _ _ _ h => h) (Or.inl ⟨by rfl, fun u hu => by (try dsimp only at hu); go_simp; try with_reducible rfl⟩) hHeld ?_
       simp only [Act.put, List.setIfInBounds_toArray, List.set_cons_zero, List.set_cons_succ]
       refine wpAnyH_take (i := 14) (oi := { dst := some 75, op := Op.nilCheck (Operand.tmp 74), type := 0, pos := "l07_moves.go:25", after := #[{ on := 13, ground := Ground.data }], guard := none }) (v := .pointer (some ⟨pb, 0, none⟩)) rfl (by kernel_rfl) (by kernel_rfl) (by kernel_rfl) (fun _ _ _ h => h) (Or.inl ⟨by rfl, fun u hu => by (try dsimp only at hu); go_simp; try with_reducible rfl⟩) hHeld ?_
       simp only [Act.put, List.setIfInBounds_toArray, List.set_cons_zero, List.set_cons_succ]
       refine wpAnyH_take (i := 15) (oi := { dst := some 76, op := Op.fieldAddr 32 (Operand.tmp 75) 2, type := 0, pos := "l07_moves.go:25", after := #[{ on := 14, ground := Ground.data }], guard := none }) (v := .pointer (some ⟨pb, 2, none⟩)) rfl (by kernel_rfl) (by kernel_rfl) (by kernel_rfl) (fun _ _ _ h => h) (Or.inl ⟨by rfl, fun u hu => by (try dsimp only at hu); go_simp; try with_reducible rfl⟩) hHeld ?_
       simp only [Act.put, List.setIfInBounds_toArray, List.set_cons_zero, List.set_cons_succ]
       refine wpAnyH_take (i := 16) (oi := { dst := some 77, op := Op.load 2 (Operand.tmp 76), type := 2, pos := "l07_moves.go:25", after := #[{ on := 15, ground := Ground.data }], guard := none }) (v := .int .i64 P) rfl (by kernel_rfl) (by kernel_rfl) (by kernel_rfl) (fun _ _ _ h => h) (Or.inl ⟨by rfl, fun u hu => by (try dsimp only at hu); go_simp; try with_reducible rfl⟩) hHeld ?_
       simp only [Act.put, List.setIfInBounds_toArray, List.set_cons_zero, List.set_cons_succ]
       refine wpAnyH_take (i := 17) (oi := { dst := some 78, op := Op.indexAddr 24 (Operand.tmp 73) (Operand.tmp 77), type := 0, pos := "l07_moves.go:25", after := #[{ on := 12, ground := Ground.data }, { on := 16, ground := Ground.data }], guard := none }) (v := .pointer (some ⟨g', o' + P, none⟩)) rfl (by kernel_rfl) (by kernel_rfl) (by kernel_rfl) (fun _ _ _ h => h) (Or.inl ⟨by rfl, fun u hu => by (try dsimp only at hu); go_simp; try with_reducible rfl⟩) hHeld ?_
       simp only [Act.put, List.setIfInBounds_toArray, List.set_cons_zero, List.set_cons_succ]
       refine wpAnyH_take (i := 18) (oi := { dst := some 79, op := Op.load 2 (Operand.tmp 78), type := 2, pos := "l07_moves.go:25", after := #[{ on := 17, ground := Ground.data }], guard := none }) (v := .int .i64 yv) rfl (by kernel_rfl) (by kernel_rfl) (by kernel_rfl) (fun _ _ _ h => h) (Or.inl ⟨by rfl, fun u hu => by (try dsimp only at hu); go_simp; try with_reducible rfl⟩) hHeld ?_
       simp only [Act.put, List.setIfInBounds_toArray, List.set_cons_zero, List.set_cons_succ]
       refine wpAnyH_take (i := 19) (oi := { dst := some 80, op := Op.binOp BinOp.sub 2 (Operand.tmp 69) (Operand.tmp 79) 2, type := 2, pos := "l07_moves.go:25", after := #[{ on := 8, ground := Ground.data }, { on := 18, ground := Ground.data }], guard := none }) (v := .int .i64 (tv - yv)) rfl (by kernel_rfl) (by kernel_rfl) (by kernel_rfl) (fun _ _ _ h => h) (Or.inl ⟨by rfl, fun u hu => by (try dsimp only at hu); go_simp; try with_reducible rfl⟩) hHeld ?_
       simp only [Act.put, List.setIfInBounds_toArray, List.set_cons_zero, List.set_cons_succ]
       refine wpAnyH_take (i := 20) (oi := { dst := some 81, op := Op.move (Operand.tmp 0), type := 63, pos := "l07_moves.go:25", after := #[], guard := none }) (v := .pointer (some ⟨rb, 0, none⟩)) rfl (by kernel_rfl) (by kernel_rfl) (by kernel_rfl) (fun _ _ _ h => h) (Or.inl ⟨by rfl, fun u hu => by (try dsimp only at hu); go_simp; try with_reducible rfl⟩) hHeld ?_
       simp only [Act.put, List.setIfInBounds_toArray, List.set_cons_zero, List.set_cons_succ]
       refine wpAnyH_take (i := 21) (oi := { dst := some 82, op := Op.nilCheck (Operand.tmp 81), type := 0, pos := "l07_moves.go:25", after := #[{ on := 20, ground := Ground.data }], guard := none }) (v := .pointer (some ⟨rb, 0, none⟩)) rfl (by kernel_rfl) (by kernel_rfl) (by kernel_rfl) (fun _ _ _ h => h) (Or.inl ⟨by rfl, fun u hu => by (try dsimp only at hu); go_simp; try with_reducible rfl⟩) hHeld ?_
       simp only [Act.put, List.setIfInBounds_toArray, List.set_cons_zero, List.set_cons_succ]
       refine wpAnyH_take (i := 22) (oi := { dst := some 83, op := Op.fieldAddr 31 (Operand.tmp 82) 6, type := 0, pos := "l07_moves.go:25", after := #[{ on := 21, ground := Ground.data }], guard := none }) (v := .pointer (some ⟨rb, 6, none⟩)) rfl (by kernel_rfl) (by kernel_rfl) (by kernel_rfl) (fun _ _ _ h => h) (Or.inl ⟨by rfl, fun u hu => by (try dsimp only at hu); go_simp; try with_reducible rfl⟩) hHeld ?_
       simp only [Act.put, List.setIfInBounds_toArray, List.set_cons_zero, List.set_cons_succ]
       refine wpAnyH_take (i := 23) (oi := { dst := some 84, op := Op.load 4 (Operand.tmp 83), type := 4, pos := "l07_moves.go:25", after := #[{ on := 22, ground := Ground.data }], guard := none }) (v := .bool false) rfl (by kernel_rfl) (by kernel_rfl) (by kernel_rfl) (fun _ _ _ h => h) (Or.inl ⟨by rfl, fun u hu => by (try dsimp only at hu); go_simp; try with_reducible rfl⟩) hHeld ?_
       simp only [Act.put, List.setIfInBounds_toArray, List.set_cons_zero, List.set_cons_succ]
       refine wpAnyH_take (i := 24) (oi := { dst := some 85, op := Op.move (Operand.tmp 84), type := 4, pos := "l07_moves.go:25", after := #[{ on := 23, ground := Ground.data }], guard := none }) (v := .bool false) rfl (by kernel_rfl) (by kernel_rfl) (by kernel_rfl) (fun _ _ _ h => h) (Or.inl ⟨by rfl, fun u hu => by (try dsimp only at hu); go_simp; try with_reducible rfl⟩) hHeld ?_
       simp only [Act.put, List.setIfInBounds_toArray, List.set_cons_zero, List.set_cons_succ]
       refine wpAnyH_take (i := 25) (oi := { dst := some 86, op := Op.fieldAddr 75 (Operand.tmp 11) 2, type := 0, pos := "l07_moves.go:25", after := #[{ on := 24, ground := Ground.guard }], guard := some (24, true) }) (v := undef) rfl (by kernel_rfl) (by kernel_rfl) (by kernel_rfl) (fun _ _ _ h => h) (Or.inr ⟨by rfl, rfl⟩) hHeld ?_
       simp only [Act.put, List.setIfInBounds_toArray, List.set_cons_zero, List.set_cons_succ]
       refine wpAnyH_take (i := 26) (oi := { dst := some 87, op := Op.load 2 (Operand.tmp 86), type := 2, pos := "l07_moves.go:25", after := #[{ on := 25, ground := Ground.data }, { on := 24, ground := Ground.guard }], guard := some (24, true) }) (v := undef) rfl (by kernel_rfl) (by kernel_rfl) (by kernel_rfl) (fun _ _ _ h => h) (Or.inr ⟨by rfl, rfl⟩) hHeld ?_
       simp only [Act.put, List.setIfInBounds_toArray, List.set_cons_zero, List.set_cons_succ]
       refine wpAnyH_take (i := 27) (oi := { dst := some 88, op := Op.binOp BinOp.eql 2 (Operand.tmp 87) (Operand.const (Value.int IntKind.i64 (-1))) 2, type := 4, pos := "l07_moves.go:25", after := #[{ on := 26, ground := Ground.data }, { on := 24, ground := Ground.guard }], guard := some (24, true) }) (v := undef) rfl (by kernel_rfl) (by kernel_rfl) (by kernel_rfl) (fun _ _ _ h => h) (Or.inr ⟨by rfl, rfl⟩) hHeld ?_
       simp only [Act.put, List.setIfInBounds_toArray, List.set_cons_zero, List.set_cons_succ]
       refine wpAnyH_take (i := 28) (oi := { dst := some 89, op := Op.pick (Operand.tmp 85) (Operand.tmp 88) (Operand.const (Value.bool false)), type := 4, pos := "l07_moves.go:25", after := #[{ on := 24, ground := Ground.data }, { on := 27, ground := Ground.data }], guard := none }) (v := .bool false) rfl (by kernel_rfl) (by kernel_rfl) (by kernel_rfl) (fun _ _ _ h => h) (Or.inl ⟨by rfl, fun u hu => by (try dsimp only at hu); go_simp; try with_reducible rfl⟩) hHeld ?_
       simp only [Act.put, List.setIfInBounds_toArray, List.set_cons_zero, List.set_cons_succ]
       refine wpAnyH_take (i := 29) (oi := { dst := some 90, op := Op.build 94 #[(0, Operand.tmp 61), (1, Operand.tmp 80), (2, Operand.tmp 89)], type := 94, pos := "l07_moves.go:25", after := #[{ on := 0, ground := Ground.data }, { on := 19, ground := Ground.data }, { on := 28, ground := Ground.data }], guard := none }) (v := .agg #[.int .i64 move, .int .i64 (tv - yv), .bool false, .slice none 0 0, .slice none 0 0, .int .i64 0]) rfl (by kernel_rfl) (by kernel_rfl) (by kernel_rfl) (fun _ _ _ h => h) (Or.inl ⟨by rfl, fun u hu => by (try dsimp only at hu); go_simp; try with_reducible rfl⟩) hHeld ?_
       simp only [Act.put, List.setIfInBounds_toArray, List.set_cons_zero, List.set_cons_succ]
       refine wpAnyH_ready (rs := [30]) (by kernel_rfl) (by simp) ?_
       refine AllReadyH.cons rfl (fun K hK => ?_) AllReadyH.nil
       rw [if_pos (by rfl)]
       go_simp
       have HB9 := Lib.hid (show OnW wc _ from (HB8.out.below (al1 wc (.cells #[.int .i64 0, .int .i64 0, .bool false, .slice none 0 0, .slice none 0 0, .int .i64 0] 94))).drew)
       refine hK.out _ _ (HT.out _ HB9.out) (fun hHeld => ?_)
       clear hK K
       (try simp only [Act.put, List.setIfInBounds_toArray, List.set_cons_zero, List.set_cons_succ])
       refine wpAnyH_ready (rs := [31]) (by kernel_rfl) (by simp) ?_
       refine AllReadyH.cons rfl (fun K hK => ?_) AllReadyH.nil
       rw [if_pos (by rfl)]
       go_simp
       have HB10 := Lib.hid (show OnW wc _ from (HB8.out.below (al1 wc (.cells #[.int .i64 move, .int .i64 (tv - yv), .bool false, .slice none 0 0, .slice none 0 0, .int .i64 0] 94))).drew)
       refine hK.out _ _ (HT.out _ HB10.out) (fun hHeld => ?_)
       clear hK K
       (try simp only [Act.put, List.setIfInBounds_toArray, List.set_cons_zero, List.set_cons_succ])
       refine wpAnyH_done (by kernel_rfl) ?_ _
       refine NoPanic.normal ?_
       go_wp2_with fail
       go_meet
       exact ⟨wc.heap.size, rfl, Nat.le_refl _, (ot6_new wc 94 move (tv - yv) false (.slice none 0 0) (.slice none 0 0) (.int .i64 0)).drew, HB10.out⟩
      ·go_region_held3 (fun u => (pb < u.heap.size ∧ u.cell? ⟨pb, 1, none⟩ = some (.slice (some ⟨g', o', none⟩) 2 pc2) ∧ u.cell? ⟨pb, 2, none⟩ = some (.int .i64 P)) ∧ (T0 < u.heap.size ∧ u.cell? ⟨T0, 1, none⟩ = some (.slice (some ⟨k2, 0, none⟩) 2 kc2) ∧ u.cell? ⟨T0, 2, none⟩ = some (.int .i64 m.last)) ∧ (rb < u.heap.size ∧ u.cell? ⟨rb, 6, none⟩ = some (.bool true)) ∧ u.cell? ⟨k2, P, none⟩ = some (.int .i64 tv) ∧ u.cell? ⟨g', o' + P, none⟩ = some (.int .i64 yv) ∧ Below wc.heap.size wc u) (first | with_reducible exact HT.out _ HB8.out | with_reducible exact HT.out _ HB8.out.drew | with_reducible exact HT.out _ (HB8.out.below (al1 _ _)) | with_reducible exact HT.out _ (HB8.out.below (al1 _ _)).drew | with_reducible exact HT.out _ (HB8.out.drew.below (al1 _ _)) | with_reducible exact HT.out _ (below6 HB8.out (by omega) _ _ _ _ _ _))
        (fail)
       all_goals go_wp2_with fail
       all_goals go_meet
       all_goals exact ⟨wc.heap.size, rfl, Nat.le_refl _, (ot6_new wc 94 move (tv - yv) (true && decide (m.last = -1)) (.slice none 0 0) (.slice none 0 0) (.int .i64 0)).drew, (HB8.out.below (al1 wc _)).drew⟩
     case rest =>
      obtain ⟨O, rfl, hO, hOt, hbc⟩ := hcut
      have HOt := Lib.hid hOt
      have HKp2 := Lib.hid (HKp.out.below hbc)
      have hl1' := Nat.lt_of_lt_of_le hl1 hbc.size
      have hl2' := Nat.lt_of_lt_of_le hl2 hbc.size
      have hO1 : k1 < O := Nat.lt_of_lt_of_le hl1 hO
      have hO2 : k2 < O := Nat.lt_of_lt_of_le hl2 hO
      have hO3 : w.heap.size < O := by omega
      have HBw := Lib.hid (show OnW w wc from HKp2.out.1.be)
      have hpO : pb ≠ O := by omega
      have HN : Hid (nxV ag pp m = if (ag && decide (m.last = -1)) = true then pp else 1 - pp) := Lib.hid rfl
      have HA : Hid (agV ag m = (ag && decide (m.last = -1))) := Lib.hid rfl
      generalize (ag && decide (m.last = -1)) = bA at *
      generalize tv - yv = gn at *
      clear hOt hbc HT HB8 hO hwg z0 z1 HTV HKp
      have HO := Lib.hid (HOt.out.drew)
      obtain ⟨ol, o0, o1, o2, o3, o4, o5, ofr⟩ := HOt.out
      have f3 := ofr 3
      have f4 := ofr 4
      have f5 := ofr 5
      obtain ⟨_, t0, t1, t2⟩ := HKp2.out.1.2.1
      obtain ⟨_, q0, q1, q2, q3⟩ := HKp2.out.1.2.2.1
      clear ofr o0 o1 o2
      go_wp2_with fail
      go_still_tail 11, (by kernel_rfl)
      change wpList _ _ _ _ _ (World.drew wc)
      go_upto_region 11 with fail
      clear o3 o4 o5 f3 f4 f5 t0 t1 t2 q0 q1 q2 q3
      have hbt := but3o O wc (.slice (some ⟨k1, 0, none⟩) pn1 kc1) (.slice (some ⟨k2, 0, none⟩) 2 kc2) (.int .i64 (1 - pp))
      have HO9 := Lib.hid (show Ot6 ((((wc.setCell ⟨O, 3, none⟩ (.slice (some ⟨k1, 0, none⟩) pn1 kc1)).setCell ⟨O, 4, none⟩ (.slice (some ⟨k2, 0, none⟩) 2 kc2)).setCell ⟨O, 5, none⟩ (.int .i64 (1 - pp))).drew) O move gn bA (.slice (some ⟨k1, 0, none⟩) pn1 kc1) (.slice (some ⟨k2, 0, none⟩) 2 kc2) (.int .i64 (1 - pp)) from (ot6_next HOt.out _ _ _).drew)
      have HZ9 := Lib.hid (show Z6 ((((wc.setCell ⟨O, 3, none⟩ (.slice (some ⟨k1, 0, none⟩) pn1 kc1)).setCell ⟨O, 4, none⟩ (.slice (some ⟨k2, 0, none⟩) 2 kc2)).setCell ⟨O, 5, none⟩ (.int .i64 (1 - pp))).drew) w.heap.size from (HKp2.out.2.1.but hbt (by omega)).below (Below.refl _ _).drew)
      have HP9 := Lib.hid (show PoAt ((((wc.setCell ⟨O, 3, none⟩ (.slice (some ⟨k1, 0, none⟩) pn1 kc1)).setCell ⟨O, 4, none⟩ (.slice (some ⟨k2, 0, none⟩) 2 kc2)).setCell ⟨O, 5, none⟩ (.int .i64 (1 - pp))).drew) pb _ _ _ _ _ _ pp from (HKp2.out.1.2.1.but hbt hpO).below (Below.refl _ _).drew)
      have HK9 := Lib.hid (show PosO ((((wc.setCell ⟨O, 3, none⟩ (.slice (some ⟨k1, 0, none⟩) pn1 kc1)).setCell ⟨O, 4, none⟩ (.slice (some ⟨k2, 0, none⟩) 2 kc2)).setCell ⟨O, 5, none⟩ (.int .i64 (1 - pp))).drew) (w.heap.size + 1) (some ⟨k1, 0, none⟩) (some ⟨k2, 0, none⟩) k1 k2 pn1 2 _ _ from (PosO.but HKp2.out.2.2.2.1 hbt (by omega) (by omega)).below (Below.refl _ _).drew)
      have HB9 := Lib.hid (show OnW w ((((wc.setCell ⟨O, 3, none⟩ (.slice (some ⟨k1, 0, none⟩) pn1 kc1)).setCell ⟨O, 4, none⟩ (.slice (some ⟨k2, 0, none⟩) 2 kc2)).setCell ⟨O, 5, none⟩ (.int .i64 (1 - pp))).drew) from OnW.drew (But.lift HBw.out hbt (by omega)))
      have hl1' : k1 < ((((wc.setCell ⟨O, 3, none⟩ (.slice (some ⟨k1, 0, none⟩) pn1 kc1)).setCell ⟨O, 4, none⟩ (.slice (some ⟨k2, 0, none⟩) 2 kc2)).setCell ⟨O, 5, none⟩ (.int .i64 (1 - pp))).drew).heap.size := by simpa using hl1'
      have hl2' : k2 < ((((wc.setCell ⟨O, 3, none⟩ (.slice (some ⟨k1, 0, none⟩) pn1 kc1)).setCell ⟨O, 4, none⟩ (.slice (some ⟨k2, 0, none⟩) 2 kc2)).setCell ⟨O, 5, none⟩ (.int .i64 (1 - pp))).drew).heap.size := by simpa using hl2'
      generalize ((((wc.setCell ⟨O, 3, none⟩ (.slice (some ⟨k1, 0, none⟩) pn1 kc1)).setCell ⟨O, 4, none⟩ (.slice (some ⟨k2, 0, none⟩) 2 kc2)).setCell ⟨O, 5, none⟩ (.int .i64 (1 - pp))).drew) = w9 at *
      clear hbt HOt HKp2 HBw HO
      have hne : O ≠ w.heap.size := by omega
      have hne' : w.heap.size ≠ O := by omega
      have hpO' : O ≠ pb := Ne.symm hpO
      obtain ⟨ol, o0, o1, o2, o3, o4, o5, ofr⟩ := HO9.out
      have f5 := ofr 5
      obtain ⟨_, -, -, t2⟩ := HP9.out
      obtain ⟨zl, z0, z1, z2, z3, z4, z5, zf⟩ := HZ9.out
      have y0 := zf 0
      have y1 := zf 1
      have y2 := zf 2
      have y3 := zf 3
      have y4 := zf 4
      have y5 := zf 5
      clear zf ofr
      cases bA
      ·go_wp2_with fail
       refine bodyPost_ret (v := .tuple #[.agg #[.int .i64 move, .int .i64 gn, .bool false, .slice (some ⟨k1, 0, none⟩) pn1 kc1, .slice (some ⟨k2, 0, none⟩) 2 kc2, .int .i64 (1 - pp)], .int .i64 0]) (by simp [results, Try.results60, go_sem, z0, z1, z2, z3, z4, z5]) rfl ?_
       rw [HIl.out]
       have hkn1 := HK9.out.o1.new
       have hkn2 := HK9.out.o2.new
       have hbz := but6 w.heap.size w9 (.int .i64 move) (.int .i64 gn) (.bool false) (.slice (some ⟨k1, 0, none⟩) pn1 kc1) (.slice (some ⟨k2, 0, none⟩) 2 kc2) (.int .i64 (1 - pp))
       exact mrL_leg HGn.out HA.out (by have := HN.out; simpa using this) ((PosO.but HK9.out hbz (by omega) (by omega)).lower (Nat.le_succ _)) (by simpa using hl1') (by simpa using hl2') htc1 htc2 (show OnW w _ from below6 HB9.out (Nat.le_refl _) _ _ _ _ _ _)
      ·go_wp2_with fail
       refine bodyPost_ret (v := .tuple #[.agg #[.int .i64 move, .int .i64 gn, .bool true, .slice (some ⟨k1, 0, none⟩) pn1 kc1, .slice (some ⟨k2, 0, none⟩) 2 kc2, .int .i64 pp], .int .i64 0]) (by simp [results, Try.results60, go_sem, z0, z1, z2, z3, z4, z5]) rfl ?_
       rw [HIl.out]
       have hkn1 := HK9.out.o1.new
       have hkn2 := HK9.out.o2.new
       have hbo : But O w9 (w9.setCell ⟨O, 5, none⟩ (.int .i64 pp)) := (But.refl O w9).setCell rfl _
       have hbz := but6 w.heap.size (w9.setCell ⟨O, 5, none⟩ (.int .i64 pp)) (.int .i64 move) (.int .i64 gn) (.bool true) (.slice (some ⟨k1, 0, none⟩) pn1 kc1) (.slice (some ⟨k2, 0, none⟩) 2 kc2) (.int .i64 pp)
       exact mrL_leg HGn.out HA.out (by have := HN.out; simpa using this) ((PosO.but (PosO.but HK9.out hbo (by omega) (by omega)) hbz (by omega) (by omega)).lower (Nat.le_succ _)) (by simpa using hl1') (by simpa using hl2') htc1 htc2 (show OnW w _ from below6 (But.lift HB9.out hbo (by omega)) (Nat.le_refl _) _ _ _ _ _ _)
    ·rw [hfF] at HIl
     clear hfF
     obtain ⟨zl, z0, z1, z2, z3, z4, z5, zf⟩ := HKp.out.2.1
     have f0 := zf 0
     have f1 := zf 1
     have f2 := zf 2
     have f3 := zf 3
     have f4 := zf 4
     have f5 := zf 5
     clear zf
     go_wp2_with fail
     refine bodyPost_ret (v := .tuple #[.agg #[.int .i64 0, .int .i64 0, .bool false, .slice none 0 0, .slice none 0 0, .int .i64 0], .int .i64 9]) (by simp [results, Try.results60, go_sem, z0, z1, z2, z3, z4, z5]) rfl ?_
     rw [HIl.out]
     exact mrL_ill (show OnW w _ from below6 HKp.out.1.be (Nat.le_refl _) _ _ _ _ _ _)
  ·have HIl : Hid (illB c l p pp fe xs m = true) := Lib.hid (by unfold illB; rw [hfb, Bool.true_or])
   clear hfb
   obtain ⟨zl, z0, z1, z2, z3, z4, z5, zf⟩ := HZ2.out
   have f0 := zf 0
   have f1 := zf 1
   have f2 := zf 2
   have f3 := zf 3
   have f4 := zf 4
   have f5 := zf 5
   clear zf
   go_wp2_with fail
   refine bodyPost_ret (v := .tuple #[.agg #[.int .i64 0, .int .i64 0, .bool false, .slice none 0 0, .slice none 0 0, .int .i64 0], .int .i64 9]) (by simp [results, Try.results60, go_sem, z0, z1, z2, z3, z4, z5]) rfl ?_
   rw [HIl.out]
   exact mrL_ill (show OnW w _ from below6 HL.out.be (Nat.le_refl _) _ _ _ _ _ _)
/- Mk7 -/
def MmAt (w : World) (p s c l : Int) (st sk re fe ag : Bool) (player : Int) (s1 s2 : Option Addr) (sn1 sc1 sn2 sc2 : Nat) (sp sq : Int) (p1 p2 : Option Addr) (pn1 pc1 pn2 pc2 : Nat) (pp : Int) (t1 t2 : Option Addr) (tn1 tc1 tn2 tc2 : Nat) (tp tq : Int) (u : World) : Prop := (w.heap.size < u.heap.size ∧ u.cell? ⟨w.heap.size, 0, none⟩ = some (.int .i64 p) ∧ u.cell? ⟨w.heap.size, 1, none⟩ = some (.int .i64 s) ∧ u.cell? ⟨w.heap.size, 2, none⟩ = some (.bool st) ∧ u.cell? ⟨w.heap.size, 3, none⟩ = some (.bool sk) ∧ u.cell? ⟨w.heap.size, 4, none⟩ = some (.bool re) ∧ u.cell? ⟨w.heap.size, 5, none⟩ = some (.bool fe) ∧ u.cell? ⟨w.heap.size, 6, none⟩ = some (.bool ag) ∧ u.cell? ⟨w.heap.size, 7, none⟩ = some (.int .i64 c) ∧ u.cell? ⟨w.heap.size, 8, none⟩ = some (.int .i64 l) ∧ u.cell? ⟨w.heap.size, 9, none⟩ = some (.int .i64 player) ∧ u.cell? ⟨w.heap.size, 10, none⟩ = some (.slice s1 sn1 sc1) ∧ u.cell? ⟨w.heap.size, 11, none⟩ = some (.slice s2 sn2 sc2) ∧ u.cell? ⟨w.heap.size, 12, none⟩ = some (.int .i64 sp) ∧ u.cell? ⟨w.heap.size, 13, none⟩ = some (.int .i64 sq) ∧ u.cell? ⟨w.heap.size, 14, none⟩ = some (.slice p1 pn1 pc1) ∧ u.cell? ⟨w.heap.size, 15, none⟩ = some (.slice p2 pn2 pc2) ∧ u.cell? ⟨w.heap.size, 16, none⟩ = some (.int .i64 pp) ∧ u.cell? ⟨w.heap.size, 17, none⟩ = some (.slice t1 tn1 tc1) ∧ u.cell? ⟨w.heap.size, 18, none⟩ = some (.slice t2 tn2 tc2) ∧ u.cell? ⟨w.heap.size, 19, none⟩ = some (.int .i64 tp) ∧ u.cell? ⟨w.heap.size, 20, none⟩ = some (.int .i64 tq)) ∧ Below w.heap.size w u
section
variable {w u v : World} {p s c l player : Int} {st sk re fe ag : Bool} {s1 s2 : Option Addr} {sn1 sc1 sn2 sc2 : Nat} {sp sq : Int} {p1 p2 : Option Addr} {pn1 pc1 pn2 pc2 : Nat} {pp : Int} {t1 t2 : Option Addr} {tn1 tc1 tn2 tc2 : Nat} {tp tq : Int}
theorem MmAt.below (h : MmAt w p s c l st sk re fe ag player s1 s2 sn1 sc1 sn2 sc2 sp sq p1 p2 pn1 pc1 pn2 pc2 pp t1 t2 tn1 tc1 tn2 tc2 tp tq u) (k : Below u.heap.size u v) : MmAt w p s c l st sk re fe ag player s1 s2 sn1 sc1 sn2 sc2 sp sq p1 p2 pn1 pc1 pn2 pc2 pp t1 t2 tn1 tc1 tn2 tc2 tp tq v := by
 obtain ⟨⟨hb, h⟩, hw⟩ := h
 have e := fun o => k.cell (p := ⟨w.heap.size, o, none⟩) hb
 exact ⟨⟨Nat.lt_of_lt_of_le hb k.size, by rw [e, e, e, e, e, e, e, e, e, e, e, e, e, e, e, e, e, e, e, e, e]; exact h⟩, hw.trans (k.mono hw.size)⟩
theorem MmAt.drew (h : MmAt w p s c l st sk re fe ag player s1 s2 sn1 sc1 sn2 sc2 sp sq p1 p2 pn1 pc1 pn2 pc2 pp t1 t2 tn1 tc1 tn2 tc2 tp tq u) : MmAt w p s c l st sk re fe ag player s1 s2 sn1 sc1 sn2 sc2 sp sq p1 p2 pn1 pc1 pn2 pc2 pp t1 t2 tn1 tc1 tn2 tc2 tp tq u.drew := ⟨h.1, h.2.drew⟩
theorem MmAt.range (h : MmAt w p s c l st sk re fe ag player s1 s2 sn1 sc1 sn2 sc2 sp sq p1 p2 pn1 pc1 pn2 pc2 pp t1 t2 tn1 tc1 tn2 tc2 tp tq u) : u.rangeAt w.heap.size 0 [.int .i64 p, .int .i64 s, .bool st, .bool sk, .bool re, .bool fe, .bool ag, .int .i64 c, .int .i64 l, .int .i64 player, .slice s1 sn1 sc1, .slice s2 sn2 sc2, .int .i64 sp, .int .i64 sq, .slice p1 pn1 pc1, .slice p2 pn2 pc2, .int .i64 pp, .slice t1 tn1 tc1, .slice t2 tn2 tc2, .int .i64 tp, .int .i64 tq] := by
 obtain ⟨⟨_, m0, m1, m2, m3, m4, m5, m6, m7, m8, m9, m10, m11, m12, m13, m14, m15, m16, m17, m18, m19, m20⟩, -⟩ := h
 intro j v hj
 match j, hj with
 | 0, hj => cases hj; exact m0
 | 1, hj => cases hj; exact m1
 | 2, hj => cases hj; exact m2
 | 3, hj => cases hj; exact m3
 | 4, hj => cases hj; exact m4
 | 5, hj => cases hj; exact m5
 | 6, hj => cases hj; exact m6
 | 7, hj => cases hj; exact m7
 | 8, hj => cases hj; exact m8
 | 9, hj => cases hj; exact m9
 | 10, hj => cases hj; exact m10
 | 11, hj => cases hj; exact m11
 | 12, hj => cases hj; exact m12
 | 13, hj => cases hj; exact m13
 | 14, hj => cases hj; exact m14
 | 15, hj => cases hj; exact m15
 | 16, hj => cases hj; exact m16
 | 17, hj => cases hj; exact m17
 | 18, hj => cases hj; exact m18
 | 19, hj => cases hj; exact m19
 | 20, hj => cases hj; exact m20
 | n + 21, hj => simp at hj
theorem MmAt.be (h : MmAt w p s c l st sk re fe ag player s1 s2 sn1 sc1 sn2 sc2 sp sq p1 p2 pn1 pc1 pn2 pc2 pp t1 t2 tn1 tc1 tn2 tc2 tp tq u) : Below w.heap.size w u := h.2
end
theorem mm_new (p s c l : Int) (st sk re fe ag : Bool) (player : Int) (s1 s2 : Option Addr) (sn1 sc1 sn2 sc2 : Nat) (sp sq : Int) (p1 p2 : Option Addr) (pn1 pc1 pn2 pc2 : Nat) (pp : Int) (t1 t2 : Option Addr) (tn1 tc1 tn2 tc2 : Nat) (tp tq : Int) (w : World) (T : TypeId) : MmAt w p s c l st sk re fe ag player s1 s2 sn1 sc1 sn2 sc2 sp sq p1 p2 pn1 pc1 pn2 pc2 pp t1 t2 tn1 tc1 tn2 tc2 tp tq (w.alloc (.cells #[.int .i64 p, .int .i64 s, .bool st, .bool sk, .bool re, .bool fe, .bool ag, .int .i64 c, .int .i64 l, .int .i64 player, .slice s1 sn1 sc1, .slice s2 sn2 sc2, .int .i64 sp, .int .i64 sq, .slice p1 pn1 pc1, .slice p2 pn2 pc2, .int .i64 pp, .slice t1 tn1 tc1, .slice t2 tn2 tc2, .int .i64 tp, .int .i64 tq] T)) :=
 ⟨⟨by simp, by go_simp, by go_simp, by go_simp, by go_simp, by go_simp, by go_simp, by go_simp, by go_simp, by go_simp, by go_simp, by go_simp, by go_simp, by go_simp, by go_simp, by go_simp, by go_simp, by go_simp, by go_simp, by go_simp, by go_simp, by go_simp⟩, (Below.refl _ _).alloc (Nat.le_refl _) _⟩
theorem again_any (p s c l : Int) (st sk re fe ag : Bool) (player : Int) (s1 s2 : Option Addr) (sn1 sc1 sn2 sc2 : Nat) (sp sq : Int) (p1 p2 : Option Addr) (pn1 pc1 pn2 pc2 : Nat) (pp : Int) (t1 t2 : Option Addr) (tn1 tc1 tn2 tc2 : Nat) (tp tq : Int) (w : World) :
  Calls Try.prog 77 #[.agg #[.int .i64 p, .int .i64 s, .bool st, .bool sk, .bool re, .bool fe, .bool ag, .int .i64 c, .int .i64 l, .int .i64 player, .slice s1 sn1 sc1, .slice s2 sn2 sc2, .int .i64 sp, .int .i64 sq, .slice p1 pn1 pc1, .slice p2 pn2 pc2, .int .i64 pp, .slice t1 tn1 tc1, .slice t2 tn2 tc2, .int .i64 tp, .int .i64 tq]] w fun e w' => e = .returned (.bool (ag && decide (sp = -1))) ∧ Below w.heap.size w w' := by
 have HX := Lib.hid (mm_new p s c l st sk re fe ag player s1 s2 sn1 sc1 sn2 sc2 sp sq p1 p2 pn1 pc1 pn2 pc2 pp t1 t2 tn1 tc1 tn2 tc2 tp tq w 79)
 by_cases h : sp = -1
 ·have d : (sp == -1) = true := by simpa using h
  rw [decide_eq_true h]
  clear h
  cases ag
  all_goals
   go_enter Try.func77, Try.ntmps77
   go_wp2_with fail
   go_ret
   exact ⟨rfl, HX.out.be⟩
 ·have d : (sp == -1) = false := by simpa using h
  rw [decide_eq_false h]
  clear h
  cases ag
  all_goals
   go_enter Try.func77, Try.ntmps77
   go_wp2_with fail
   go_ret
   exact ⟨rfl, HX.out.be⟩
theorem nextM_any (p s c l : Int) (st sk re fe ag : Bool) (player : Int) (s1 s2 : Option Addr) (sn1 sc1 sn2 sc2 : Nat) (sp sq : Int) (p1 p2 : Option Addr) (pn1 pc1 pn2 pc2 : Nat) (pp : Int) (t1 t2 : Option Addr) (tn1 tc1 tn2 tc2 : Nat) (tp tq : Int) (w : World) (hpl : player = 0 ∨ player = 1) :
  Calls Try.prog 63 #[.agg #[.int .i64 p, .int .i64 s, .bool st, .bool sk, .bool re, .bool fe, .bool ag, .int .i64 c, .int .i64 l, .int .i64 player, .slice s1 sn1 sc1, .slice s2 sn2 sc2, .int .i64 sp, .int .i64 sq, .slice p1 pn1 pc1, .slice p2 pn2 pc2, .int .i64 pp, .slice t1 tn1 tc1, .slice t2 tn2 tc2, .int .i64 tp, .int .i64 tq]] w fun e w' => e = .returned (.agg #[.slice t1 tn1 tc1, .slice t2 tn2 tc2, .int .i64 (if ag && decide (sp = -1) then player else 1 - player)]) ∧ Below w.heap.size w w' := by
 have HX := Lib.hid ((mm_new p s c l st sk re fe ag player s1 s2 sn1 sc1 sn2 sc2 sp sq p1 p2 pn1 pc1 pn2 pc2 pp t1 t2 tn1 tc1 tn2 tc2 tp tq w 79).below (al1 _ (.cells #[.slice none 0 0, .slice none 0 0, .int .i64 0] 32)))
 have HZ := Lib.hid (show ZeroP _ (w.heap.size + 1) from by have := zero_new (w.alloc (.cells #[.int .i64 p, .int .i64 s, .bool st, .bool sk, .bool re, .bool fe, .bool ag, .int .i64 c, .int .i64 l, .int .i64 player, .slice s1 sn1 sc1, .slice s2 sn2 sc2, .int .i64 sp, .int .i64 sq, .slice p1 pn1 pc1, .slice p2 pn2 pc2, .int .i64 pp, .slice t1 tn1 tc1, .slice t2 tn2 tc2, .int .i64 tp, .int .i64 tq] 79)) 32; simpa using this)
 have HAg : Hid (∀ u, Calls Try.prog 77 #[.agg #[.int .i64 p, .int .i64 s, .bool st, .bool sk, .bool re, .bool fe, .bool ag, .int .i64 c, .int .i64 l, .int .i64 player, .slice s1 sn1 sc1, .slice s2 sn2 sc2, .int .i64 sp, .int .i64 sq, .slice p1 pn1 pc1, .slice p2 pn2 pc2, .int .i64 pp, .slice t1 tn1 tc1, .slice t2 tn2 tc2, .int .i64 tp, .int .i64 tq]] u fun e w' => e = .returned (.bool (ag && decide (sp = -1))) ∧ Below u.heap.size u w') := Lib.hid (fun u => again_any p s c l st sk re fe ag player s1 s2 sn1 sc1 sn2 sc2 sp sq p1 p2 pn1 pc1 pn2 pc2 pp t1 t2 tn1 tc1 tn2 tc2 tp tq u)
 have hw1 : IntKind.i64.wrap (1 - player) = 1 - player := IntWalk.i64_in _ ⟨by omega, by omega⟩
 generalize (ag && decide (sp = -1)) = b at *
 cases b
 all_goals
  go_enter Try.func63, Try.ntmps63
  go_upto_region 1 with fail
  generalize (w.alloc (.cells #[.int .i64 p, .int .i64 s, .bool st, .bool sk, .bool re, .bool fe, .bool ag, .int .i64 c, .int .i64 l, .int .i64 player, .slice s1 sn1 sc1, .slice s2 sn2 sc2, .int .i64 sp, .int .i64 sq, .slice p1 pn1 pc1, .slice p2 pn2 pc2, .int .i64 pp, .slice t1 tn1 tc1, .slice t2 tn2 tc2, .int .i64 tp, .int .i64 tq] 79)).alloc (.cells #[.slice none 0 0, .slice none 0 0, .int .i64 0] 32) = u0 at *
  go_wp2_with (refine wpList_load_mid rfl 79 _ rfl w.heap.size 0 rfl _ _ (MmAt.range HX.out) Try.underlying79 rfl (by kernel_rfl) ?_)
  refine (HAg.out _).mono ?_
  rintro e u ⟨rfl, hb⟩
  have HX := Lib.hid (HX.out.below hb)
  have HZ := Lib.hid (HZ.out.below hb)
  clear hb
  obtain ⟨⟨_, -, -, -, -, -, -, -, -, -, m9, -, -, -, -, -, -, -, m17, m18, m19, m20⟩, -⟩ := HX.out
  go_wp2_with fail
  refine (position_any t1 t2 tn1 tc1 tn2 tc2 tp tq _ _).mono ?_
  rintro e u2 ⟨rfl, hb⟩
  have HX := Lib.hid (HX.out.below hb)
  have HZ := Lib.hid (HZ.out.below hb)
  obtain ⟨zl, z0, z1, z2, zf⟩ := HZ.out
  have f0 := zf 0
  have f1 := zf 1
  have f2 := zf 2
  clear hb zf m9 m17 m18 m19 m20
  go_wp2_with fail
  refine bodyPost_ret (v := .agg #[.slice t1 tn1 tc1, .slice t2 tn2 tc2, .int .i64 _]) (by simp [results, Try.results63, go_sem, z0, z1, z2]) rfl ⟨rfl, ?_⟩
  exact (((HX.out.be.setCell (p := ⟨w.heap.size + 1, 0, none⟩) (Nat.le_succ _) _).setCell (p := ⟨w.heap.size + 1, 1, none⟩) (Nat.le_succ _) _).setCell (p := ⟨w.heap.size + 1, 2, none⟩) (Nat.le_succ _) _)
theorem gain_any (p s c l : Int) (st sk re fe ag : Bool) (player : Int) (s1 s2 : Option Addr) (sn1 sc1 sn2 sc2 : Nat) (sp sq : Int) (p1 p2 : Option Addr) (pn1 pc1 pn2 pc2 : Nat) (pp : Int) (t1 t2 : Option Addr) (tn1 tc1 tn2 tc2 : Nat) (tp tq : Int) (vs ys : List Int) (w : World) (hpl : player = 0 ∨ player = 1) (ht : RowN w t2 vs) (hp : RowN w p2 ys) (lt : vs.length = tn2) (lp : ys.length = pn2) (ht2 : tn2 = 2) (hp2 : pn2 = 2)
  (hv : 0 ≤ vs.getD player.toNat 0 ∧ vs.getD player.toNat 0 ≤ 1000000) (hy : 0 ≤ ys.getD player.toNat 0 ∧ ys.getD player.toNat 0 ≤ 1000000) :
  Calls Try.prog 44 #[.agg #[.int .i64 p, .int .i64 s, .bool st, .bool sk, .bool re, .bool fe, .bool ag, .int .i64 c, .int .i64 l, .int .i64 player, .slice s1 sn1 sc1, .slice s2 sn2 sc2, .int .i64 sp, .int .i64 sq, .slice p1 pn1 pc1, .slice p2 pn2 pc2, .int .i64 pp, .slice t1 tn1 tc1, .slice t2 tn2 tc2, .int .i64 tp, .int .i64 tq]] w fun e w' => e = .returned (.int .i64 (vs.getD player.toNat 0 - ys.getD player.toNat 0)) ∧ Below w.heap.size w w' := by
 obtain ⟨P, rfl⟩ : ∃ P : Nat, player = (P : Int) := ⟨player.toNat, by omega⟩
 rw [Int.toNat_natCast] at *
 subst ht2
 subst hp2
 have HX := Lib.hid (mm_new p s c l st sk re fe ag (P : Int) s1 s2 sn1 sc1 sn2 sc2 sp sq p1 p2 pn1 pc1 2 pc2 pp t1 t2 tn1 tc1 2 tc2 tp tq w 79)
 have hx : vs[P]? = some (vs.getD P 0) := getD_at (by omega)
 have hz : ys[P]? = some (ys.getD P 0) := getD_at (by omega)
 obtain ⟨g, o, rfl, hgl, hcs⟩ := ht.2.resolve_left (by intro e; subst e; cases hx)
 obtain ⟨g', o', rfl, hgl', hcs'⟩ := hp.2.resolve_left (by intro e; subst e; cases hz)
 have hc0 := hcs _ _ hx
 have hc1 := hcs' _ _ hz
 clear hcs hcs'
 have z0 : (0 : Int) ≤ (P : Int) := by omega
 have z1 : (P : Int) < 2 := by omega
 generalize vs.getD P 0 = v at *
 generalize ys.getD P 0 = y at *
 obtain ⟨hv0, hv1⟩ := hv
 obtain ⟨hy0, hy1⟩ := hy
 have hw1 : IntKind.i64.wrap (v - y) = v - y := IntWalk.i64_in _ ⟨by omega, by omega⟩
 clear hx hz ht hp hpl
 have Hc0 : Hid (∀ u, Below w.heap.size w u → u.cell? ⟨g, o + P, none⟩ = some (.int .i64 v)) := Lib.hid (fun u hu => (hu.cell (p := ⟨g, o + P, none⟩) hgl).trans hc0)
 have Hc1 : Hid (∀ u, Below w.heap.size w u → u.cell? ⟨g', o' + P, none⟩ = some (.int .i64 y)) := Lib.hid (fun u hu => (hu.cell (p := ⟨g', o' + P, none⟩) hgl').trans hc1)
 clear hc0 hc1
 go_enter Try.func44, Try.ntmps44
 go_upto_region 1 with fail
 generalize w.alloc (.cells #[.int .i64 p, .int .i64 s, .bool st, .bool sk, .bool re, .bool fe, .bool ag, .int .i64 c, .int .i64 l, .int .i64 P, .slice s1 sn1 sc1, .slice s2 sn2 sc2, .int .i64 sp, .int .i64 sq, .slice p1 pn1 pc1, .slice (some ⟨g', o', none⟩) 2 pc2, .int .i64 pp, .slice t1 tn1 tc1, .slice (some ⟨g, o, none⟩) 2 tc2, .int .i64 tp, .int .i64 tq] 79) = u0 at *
 obtain ⟨⟨_, -, -, -, -, -, -, -, -, -, m9, -, -, -, -, -, m15, -, -, m18, -, -⟩, -⟩ := HX.out
 have q0 := Hc0.out _ HX.out.be
 have q1 := Hc1.out _ HX.out.be
 go_wp2_with fail
 go_quiet (fail)
 go_wp2_with fail
 go_ret
 exact ⟨rfl, below_dn HX.out.be _⟩
theorem fbS_any (p s c l : Int) (st sk re fe ag : Bool) (player : Int) (s1 s2 : Option Addr) (sn1 sc1 sn2 sc2 : Nat) (sp sq : Int) (p1 p2 : Option Addr) (pn1 pc1 pn2 pc2 : Nat) (pp : Int) (t1 t2 : Option Addr) (tn1 tc1 tn2 tc2 : Nat) (tp tq : Int) (xs ys : List Int) (w : World) (h : PosR w s1 s2 sn1 sn2 xs ys) (g : Good p s c l st sk re fe ag player sn1 sn2 sp xs ys) (hcap : sn1 ≤ sc1) :
  Calls Try.prog 75 #[.agg #[.int .i64 p, .int .i64 s, .bool st, .bool sk, .bool re, .bool fe, .bool ag, .int .i64 c, .int .i64 l, .int .i64 player, .slice s1 sn1 sc1, .slice s2 sn2 sc2, .int .i64 sp, .int .i64 sq, .slice p1 pn1 pc1, .slice p2 pn2 pc2, .int .i64 pp, .slice t1 tn1 tc1, .slice t2 tn2 tc2, .int .i64 tp, .int .i64 tq]] w fun e w' => e = .returned (.bool (decide (l = 1) && slamF c p player sp xs)) ∧ Below w.heap.size w w' := by
 have HX := Lib.hid (mm_new p s c l st sk re fe ag player s1 s2 sn1 sc1 sn2 sc2 sp sq p1 p2 pn1 pc1 pn2 pc2 pp t1 t2 tn1 tc1 tn2 tc2 tp tq w 79)
 have H0 := Lib.hid h
 have G := Lib.hid g
 have Hcap := Lib.hid hcap
 have HRaw : Hid (∀ u, Below w.heap.size w u → Calls Try.prog 93 #[.agg #[.int .i64 p, .int .i64 s, .bool st, .bool sk, .bool re, .bool fe, .bool ag, .int .i64 c, .int .i64 l, .int .i64 player, .slice s1 sn1 sc1, .slice s2 sn2 sc2, .int .i64 sp, .int .i64 sq]] u (OwnP (rawF c p player sp xs) (rawF c p player sp xs).length u)) := Lib.hid (fun u hu => rawI_any p s c l st sk re fe ag player _ _ _ _ _ _ _ _ xs ys u (h.below hu) g)
 have HLn : Hid ((rawF c p player sp xs).length ≤ 1000) := Lib.hid (by have := raw_len (cp := c) (pl := player) (xs := xs) g.p2.2 g.p2.1 g.l2; omega)
 have HRin := Lib.hid (g.raw c)
 have hsf : slamF c p player sp xs = slamB p player xs (rawF c p player sp xs) := rfl
 rw [hsf]
 generalize rawF c p player sp xs = L at *
 clear h g hcap hsf
 by_cases hl : l = 1
 ·subst hl
  rw [decide_eq_true rfl]
  go_enter Try.func75, Try.ntmps75
  go_upto_region 1 with fail
  generalize w.alloc (.cells #[.int .i64 p, .int .i64 s, .bool st, .bool sk, .bool re, .bool fe, .bool ag, .int .i64 c, .int .i64 1, .int .i64 player, .slice s1 sn1 sc1, .slice s2 sn2 sc2, .int .i64 sp, .int .i64 sq, .slice p1 pn1 pc1, .slice p2 pn2 pc2, .int .i64 pp, .slice t1 tn1 tc1, .slice t2 tn2 tc2, .int .i64 tp, .int .i64 tq] 79) = u0 at *
  have HT : Hid (∀ u : World, MmAt w p s c 1 st sk re fe ag player s1 s2 sn1 sc1 sn2 sc2 sp sq p1 p2 pn1 pc1 pn2 pc2 pp t1 t2 tn1 tc1 tn2 tc2 tp tq u → (w.heap.size < u.heap.size ∧ u.cell? ⟨w.heap.size, 0, none⟩ = some (.int .i64 p) ∧ u.cell? ⟨w.heap.size, 1, none⟩ = some (.int .i64 s) ∧ u.cell? ⟨w.heap.size, 2, none⟩ = some (.bool st) ∧ u.cell? ⟨w.heap.size, 3, none⟩ = some (.bool sk) ∧ u.cell? ⟨w.heap.size, 4, none⟩ = some (.bool re) ∧ u.cell? ⟨w.heap.size, 5, none⟩ = some (.bool fe) ∧ u.cell? ⟨w.heap.size, 6, none⟩ = some (.bool ag) ∧ u.cell? ⟨w.heap.size, 7, none⟩ = some (.int .i64 c) ∧ u.cell? ⟨w.heap.size, 8, none⟩ = some (.int .i64 1) ∧ u.cell? ⟨w.heap.size, 9, none⟩ = some (.int .i64 player) ∧ u.cell? ⟨w.heap.size, 10, none⟩ = some (.slice s1 sn1 sc1) ∧ u.cell? ⟨w.heap.size, 11, none⟩ = some (.slice s2 sn2 sc2) ∧ u.cell? ⟨w.heap.size, 12, none⟩ = some (.int .i64 sp) ∧ u.cell? ⟨w.heap.size, 13, none⟩ = some (.int .i64 sq)) ∧ Below w.heap.size w u) := Lib.hid (fun u h => ⟨⟨h.1.1, h.1.2.1, h.1.2.2.1, h.1.2.2.2.1, h.1.2.2.2.2.1, h.1.2.2.2.2.2.1, h.1.2.2.2.2.2.2.1, h.1.2.2.2.2.2.2.2.1, h.1.2.2.2.2.2.2.2.2.1, h.1.2.2.2.2.2.2.2.2.2.1, h.1.2.2.2.2.2.2.2.2.2.2.1, h.1.2.2.2.2.2.2.2.2.2.2.2.1, h.1.2.2.2.2.2.2.2.2.2.2.2.2.1, h.1.2.2.2.2.2.2.2.2.2.2.2.2.2.1, h.1.2.2.2.2.2.2.2.2.2.2.2.2.2.2.1⟩, h.2⟩)
  go_wp2_with fail
  go_region_held3 (fun u => (w.heap.size < u.heap.size ∧ u.cell? ⟨w.heap.size, 0, none⟩ = some (.int .i64 p) ∧ u.cell? ⟨w.heap.size, 1, none⟩ = some (.int .i64 s) ∧ u.cell? ⟨w.heap.size, 2, none⟩ = some (.bool st) ∧ u.cell? ⟨w.heap.size, 3, none⟩ = some (.bool sk) ∧ u.cell? ⟨w.heap.size, 4, none⟩ = some (.bool re) ∧ u.cell? ⟨w.heap.size, 5, none⟩ = some (.bool fe) ∧ u.cell? ⟨w.heap.size, 6, none⟩ = some (.bool ag) ∧ u.cell? ⟨w.heap.size, 7, none⟩ = some (.int .i64 c) ∧ u.cell? ⟨w.heap.size, 8, none⟩ = some (.int .i64 1) ∧ u.cell? ⟨w.heap.size, 9, none⟩ = some (.int .i64 player) ∧ u.cell? ⟨w.heap.size, 10, none⟩ = some (.slice s1 sn1 sc1) ∧ u.cell? ⟨w.heap.size, 11, none⟩ = some (.slice s2 sn2 sc2) ∧ u.cell? ⟨w.heap.size, 12, none⟩ = some (.int .i64 sp) ∧ u.cell? ⟨w.heap.size, 13, none⟩ = some (.int .i64 sq)) ∧ Below w.heap.size w u) (first | with_reducible exact HT.out _ HX.out | with_reducible exact HT.out _ HX.out.drew)
   (first
   | (go_at_call 93; (with_reducible refine (HRaw.out _ ?_).mono ?_); (first | with_reducible exact HX.out.be | with_reducible exact HX.out.drew.be); rintro e w5 ⟨v5, rfl, hown, hb5⟩; obtain ⟨a5, cc5, rfl, hr5⟩ := own_slice hown rfl HLn.out; have HR5 := Lib.hid hr5; (first | with_reducible have HX := Lib.hid (HX.out.below hb5) | with_reducible have HX := Lib.hid (HX.out.drew.below hb5)); clear hown hr5 hb5)
   | (go_at_call 92; refine (isSlam_any p s c 1 st sk re fe ag player s1 s2 sn1 sc1 sn2 sc2 sp sq xs ys _ a5 cc5 _ _ (H0.out.below (by first | exact HX.out.be | exact HX.out.drew.be)) G.out.q1 G.out.t1 G.out.p2 G.out.n1 G.out.pl HRin.out rfl HLn.out (by first | exact HR5.out | exact HR5.out.drewN 1) Hcap.out).mono ?_; rintro e w6 ⟨rfl, hb6⟩; have HX := Lib.hid (by first | exact HX.out.below hb6 | exact HX.out.drew.below hb6 : MmAt w p s c 1 st sk re fe ag player s1 s2 sn1 sc1 sn2 sc2 sp sq p1 p2 pn1 pc1 pn2 pc2 pp t1 t2 tn1 tc1 tn2 tc2 tp tq w6); clear hb6))
  go_wp2_with fail
  go_ret
  exact ⟨rfl, HX.out.be⟩
 ·have d : (l == 1) = false := by simpa using hl
  rw [decide_eq_false hl]
  clear hl
  go_enter Try.func75, Try.ntmps75
  go_upto_region 1 with fail
  generalize w.alloc (.cells #[.int .i64 p, .int .i64 s, .bool st, .bool sk, .bool re, .bool fe, .bool ag, .int .i64 c, .int .i64 l, .int .i64 player, .slice s1 sn1 sc1, .slice s2 sn2 sc2, .int .i64 sp, .int .i64 sq, .slice p1 pn1 pc1, .slice p2 pn2 pc2, .int .i64 pp, .slice t1 tn1 tc1, .slice t2 tn2 tc2, .int .i64 tp, .int .i64 tq] 79) = u0 at *
  obtain ⟨⟨_, -, -, -, -, -, -, -, -, m8, -, -, -, -, -, -, -, -, -, -, -, -⟩, -⟩ := HX.out
  go_wp2_with fail
  go_quiet (fail)
  go_wp2_with fail
  go_ret
  exact ⟨rfl, below_dn HX.out.be _⟩
/- Mk8 -/
theorem fbF_any (p s c l : Int) (st sk re fe ag : Bool) (player : Int) (s1 s2 : Option Addr) (sn1 sc1 sn2 sc2 : Nat) (sp sq : Int) (p1 p2 : Option Addr) (pn1 pc1 pn2 pc2 : Nat) (pp : Int) (t1 t2 : Option Addr) (tn1 tc1 tn2 tc2 : Nat) (tp tq : Int) (xs ys txs : List Int) (w : World) (h : PosR w p1 p2 pn1 pn2 xs ys) (hk : okP (okR p s c l st ag) p pn1 pn2 pp xs ys = true) (hcap : pn1 ≤ pc1) (ht : RowN w t1 txs) (hl : txs.length = tn1) (hn : (tn1 : Int) = 2 * p) (hq : posB txs = true) (hs : tot txs ≤ 96) (hc2 : tn1 ≤ tc1) (hpl : player = pp) :
    Calls Try.prog 76 #[.agg #[.int .i64 p, .int .i64 s, .bool st, .bool sk, .bool re, .bool fe, .bool ag, .int .i64 c, .int .i64 l, .int .i64 player, .slice s1 sn1 sc1, .slice s2 sn2 sc2, .int .i64 sp, .int .i64 sq, .slice p1 pn1 pc1, .slice p2 pn2 pc2, .int .i64 pp, .slice t1 tn1 tc1, .slice t2 tn2 tc2, .int .i64 tp, .int .i64 tq]] w fun e w' => e = .returned (.bool ((fe && noneO p pp xs) && noneO p player txs)) ∧ Below w.heap.size w w' := by
  have HX := Lib.hid (mm_new p s c l st sk re fe ag player s1 s2 sn1 sc1 sn2 sc2 sp sq p1 p2 pn1 pc1 pn2 pc2 pp t1 t2 tn1 tc1 tn2 tc2 tp tq w 79)
  have HF : Hid (∀ u, Below w.heap.size w u → Calls Try.prog 94 #[.agg #[.int .i64 p, .int .i64 s, .bool st, .bool sk, .bool re, .bool fe, .bool ag, .int .i64 c, .int .i64 l], .agg #[.slice p1 pn1 pc1, .slice p2 pn2 pc2, .int .i64 pp]] u fun e w' => e = .returned (.bool (fe && noneO p pp xs)) ∧ Below u.heap.size u w') := Lib.hid (fun u hu => implFeed_any p s c l st sk re fe ag p1 p2 pn1 pc1 pn2 pc2 pp xs ys u (h.below hu) hcap true hk)
  obtain ⟨f1, -, f3, -, -⟩ := feed_parts p s c l st sk re fe ag hk
  have HO : Hid (∀ u, Below w.heap.size w u → Calls Try.prog 95 #[.agg #[.slice t1 tn1 tc1, .slice t2 tn2 tc2, .int .i64 player], .agg #[.int .i64 p, .int .i64 s, .bool st, .bool sk, .bool re, .bool fe, .bool ag, .int .i64 c, .int .i64 l]] u fun e w' => e = .returned (.bool (noneO p player txs)) ∧ Below u.heap.size u w') := Lib.hid (fun u hu => other_any p s c l st sk re fe ag t1 t2 tn1 tc1 tn2 tc2 player txs u hl (ht.below hu) f1 hn (by rw [hpl]; exact f3) hq hs hc2)
  generalize hb1 : (fe && noneO p pp xs) = b1 at *
  generalize hb2 : noneO p player txs = b2 at *
  clear h hk hcap ht hl hn hq hs hc2 hpl f1 f3 hb1 hb2
  cases b1
  all_goals
    go_enter Try.func76, Try.ntmps76
    go_upto_region 1 with fail
    generalize w.alloc (.cells #[.int .i64 p, .int .i64 s, .bool st, .bool sk, .bool re, .bool fe, .bool ag, .int .i64 c, .int .i64 l, .int .i64 player, .slice s1 sn1 sc1, .slice s2 sn2 sc2, .int .i64 sp, .int .i64 sq, .slice p1 pn1 pc1, .slice p2 pn2 pc2, .int .i64 pp, .slice t1 tn1 tc1, .slice t2 tn2 tc2, .int .i64 tp, .int .i64 tq] 79) = u0 at *
    go_wp2_with fail
    apply region_class (MmAt w p s c l st sk re fe ag player s1 s2 sn1 sc1 sn2 sc2 sp sq p1 p2 pn1 pc1 pn2 pc2 pp t1 t2 tn1 tc1 tn2 tc2 tp tq) (by kernel_rfl) (by kernel_rfl) (HX.out.drew)
    repeat (first
      | (apply step_skip (by rfl)
         simp only [Act.put, List.setIfInBounds_toArray, List.set_cons_zero, List.set_cons_succ])
      | (apply step_val (by rfl)
         · intro u hu
           obtain ⟨⟨_, m0, m1, m2, m3, m4, m5, m6, m7, m8, m9, m10, m11, m12, m13, m14, m15, m16, m17, m18, m19, m20⟩, _⟩ := hu
           go_simp
           try with_reducible rfl
         simp only [Act.put, List.setIfInBounds_toArray, List.set_cons_zero, List.set_cons_succ])
      | (apply step_call (by rfl)
         · intro u
           go_simp
           exact ⟨rfl, rfl⟩
         · intro u hu
           (with_reducible refine (HF.out _ hu.be).mono ?_); (rintro e u' ⟨rfl, hb5⟩; exact ⟨rfl, hu.below hb5⟩)
         simp only [Act.put, List.setIfInBounds_toArray, List.set_cons_zero, List.set_cons_succ])
      | (apply step_call (by rfl)
         · intro u
           go_simp
           exact ⟨rfl, rfl⟩
         · intro u hu
           (with_reducible refine (position_any t1 t2 tn1 tc1 tn2 tc2 tp tq player _).mono ?_); (rintro e u' ⟨rfl, hb5⟩; exact ⟨rfl, hu.below hb5⟩)
         simp only [Act.put, List.setIfInBounds_toArray, List.set_cons_zero, List.set_cons_succ])
      | (apply step_call (by rfl)
         · intro u
           go_simp
           exact ⟨rfl, rfl⟩
         · intro u hu
           (with_reducible refine (HO.out _ hu.be).mono ?_); (rintro e u' ⟨rfl, hb5⟩; exact ⟨rfl, hu.below hb5⟩)
         simp only [Act.put, List.setIfInBounds_toArray, List.set_cons_zero, List.set_cons_succ]))
    apply step_nil
    intro w5 hs5
    have HS5 := Lib.hid hs5
    clear hs5
    go_wp2_with fail
    go_ret
    exact ⟨rfl, HS5.out.be⟩
/- Mk9 -/
structure ThN (n : Nat) (u : World) (b : Nat) : Prop where
 lt : b < u.heap.size
 th : u.there b 0 n
theorem ThN.below {n : Nat} {u v : World} {b : Nat} (h : ThN n u b) (k : Below u.heap.size u v) : ThN n v b := by
 refine ⟨Nat.lt_of_lt_of_le h.lt k.size, fun j hj => ?_⟩
 have := h.th j hj
 rw [k.cell (p := ⟨b, 0 + j, none⟩) h.lt, k.frozen (p := ⟨b, 0 + j, none⟩) h.lt]
 exact this
theorem below_sc {B : Nat} {a : World} (b : Nat) (hb : B ≤ b) : ∀ (vs : List Value) (o : Nat) {w : World}, Below B a w → Below B a (w.setCells b o vs)
 | [], _, _, h => h
 | v :: r, o, _, h => below_sc b hb r (o + 1) (h.setCell (p := ⟨b, o, none⟩) hb v)
def zero21 : List Value := [.int .i64 0, .int .i64 0, .bool false, .bool false, .bool false, .bool false, .bool false, .int .i64 0, .int .i64 0, .int .i64 0, .slice none 0 0, .slice none 0 0, .int .i64 0, .int .i64 0, .slice none 0 0, .slice none 0 0, .int .i64 0, .slice none 0 0, .slice none 0 0, .int .i64 0, .int .i64 0]
theorem zero21_one : zero21.toArray.all (·.oneCell') = true := all_oneCell_toArray (by unfold zero21; decide)
theorem thN_new (w : World) (T : TypeId) : ThN 21 (w.alloc (.cells zero21.toArray T)) w.heap.size := by
 refine ⟨by simp, fun j hj => ?_⟩
 match j, hj with
 | 0, _ => exact ⟨by unfold zero21; go_simp, by go_simp⟩
 | 1, _ => exact ⟨by unfold zero21; go_simp, by go_simp⟩
 | 2, _ => exact ⟨by unfold zero21; go_simp, by go_simp⟩
 | 3, _ => exact ⟨by unfold zero21; go_simp, by go_simp⟩
 | 4, _ => exact ⟨by unfold zero21; go_simp, by go_simp⟩
 | 5, _ => exact ⟨by unfold zero21; go_simp, by go_simp⟩
 | 6, _ => exact ⟨by unfold zero21; go_simp, by go_simp⟩
 | 7, _ => exact ⟨by unfold zero21; go_simp, by go_simp⟩
 | 8, _ => exact ⟨by unfold zero21; go_simp, by go_simp⟩
 | 9, _ => exact ⟨by unfold zero21; go_simp, by go_simp⟩
 | 10, _ => exact ⟨by unfold zero21; go_simp, by go_simp⟩
 | 11, _ => exact ⟨by unfold zero21; go_simp, by go_simp⟩
 | 12, _ => exact ⟨by unfold zero21; go_simp, by go_simp⟩
 | 13, _ => exact ⟨by unfold zero21; go_simp, by go_simp⟩
 | 14, _ => exact ⟨by unfold zero21; go_simp, by go_simp⟩
 | 15, _ => exact ⟨by unfold zero21; go_simp, by go_simp⟩
 | 16, _ => exact ⟨by unfold zero21; go_simp, by go_simp⟩
 | 17, _ => exact ⟨by unfold zero21; go_simp, by go_simp⟩
 | 18, _ => exact ⟨by unfold zero21; go_simp, by go_simp⟩
 | 19, _ => exact ⟨by unfold zero21; go_simp, by go_simp⟩
 | 20, _ => exact ⟨by unfold zero21; go_simp, by go_simp⟩
 | n + 21, h => exact absurd h (by omega)
theorem makeL_err (p s c l : Int) (st sk re fe ag : Bool) (p1 p2 : Option Addr) (pn1 pc1 pn2 pc2 : Nat) (pp : Int) (move cd : Int) (hcd : (cd == 0) = false) (w : World)
  (hC : ∀ u, Below w.heap.size w u → Calls Try.prog 73 #[.agg #[.int .i64 p, .int .i64 s, .bool st, .bool sk, .bool re, .bool fe, .bool ag, .int .i64 c, .int .i64 l], .agg #[.slice p1 pn1 pc1, .slice p2 pn2 pc2, .int .i64 pp], .int .i64 move] u (SoZ 0 0 0 0 cd [] [] u)) :
  Calls Try.prog 62 #[.agg #[.int .i64 p, .int .i64 s, .bool st, .bool sk, .bool re, .bool fe, .bool ag, .int .i64 c, .int .i64 l], .agg #[.slice p1 pn1 pc1, .slice p2 pn2 pc2, .int .i64 pp], .int .i64 move] w fun e w' => e = .returned (.tuple #[.agg zero21.toArray, .int .i64 cd]) ∧ Below w.heap.size w w' := by
 have HC := Lib.hid hC
 have HS := Lib.hid ((rp_new p s c l st sk re fe ag p1 p2 pn1 pc1 pn2 pc2 pp w 31 32).below (al1 _ (.cells zero21.toArray 79)))
 have HZ := Lib.hid (show ThN 21 _ (w.heap.size + 1 + 1) from by have := thN_new ((w.alloc (.cells #[.int .i64 p, .int .i64 s, .bool st, .bool sk, .bool re, .bool fe, .bool ag, .int .i64 c, .int .i64 l] 31)).alloc (.cells #[.slice p1 pn1 pc1, .slice p2 pn2 pc2, .int .i64 pp] 32)) 79; simpa using this)
 have hcd2 : (cd != 0) = true := by simpa [bne] using hcd
 clear hC
 go_enter Try.func62, Try.ntmps62
 go_wp2_with fail
 change Calls _ _ _ (((w.alloc (.cells #[.int .i64 p, .int .i64 s, .bool st, .bool sk, .bool re, .bool fe, .bool ag, .int .i64 c, .int .i64 l] 31)).alloc (.cells #[.slice p1 pn1 pc1, .slice p2 pn2 pc2, .int .i64 pp] 32)).alloc (.cells zero21.toArray 79)) _
 refine (HC.out _ HS.out.2.2).mono ?_
 generalize ((w.alloc (.cells #[.int .i64 p, .int .i64 s, .bool st, .bool sk, .bool re, .bool fe, .bool ag, .int .i64 c, .int .i64 l] 31)).alloc (.cells #[.slice p1 pn1 pc1, .slice p2 pn2 pc2, .int .i64 pp] 32)).alloc (.cells zero21.toArray 79) = u at *
 rintro e u2 ⟨a1, c1, b1, a2, c2, b2, rfl, -, -, -, -, -, hb⟩
 have HS := Lib.hid (HS.out.below hb)
 have HZ := Lib.hid (HZ.out.below hb)
 clear hb
 have HZA := Lib.hid ((HZ.out.below (al1 _ (.cells #[.slice a1 0 c1, .slice a2 0 c2, .int .i64 0, .int .i64 0] 75))).th)
 go_wp2_with (refine wpList_store_mid rfl 79 _ _ rfl (w.heap.size + 1 + 1) 0 zero21.toArray rfl rfl HZA.out (by kernel_rfl) zero21_one ?_)
 have hrun := run_loadVar_mid (P := Try.prog) _ (w.heap.size + 1 + 1) 0 79 zero21 _ (World.rangeAt_setCells_same _ (w.heap.size + 1 + 1) 0 zero21 HZA.out) Try.underlying79 rfl (by kernel_rfl)
 refine bodyPost_ret (v := .tuple #[.agg zero21.toArray, .int .i64 cd]) ?_ rfl ⟨rfl, ?_⟩
 ·simp [results, Try.results62, Result.andThen_ok, asAddr, hrun]
 ·exact below_sc (w.heap.size + 1 + 1) (by omega) zero21 0 (HS.out.below (al1 _ _)).2.2
end Go.Proofs.Ytmngmbpdiaocjaa
