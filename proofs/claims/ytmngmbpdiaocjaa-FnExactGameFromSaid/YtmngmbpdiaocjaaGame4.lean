/- A game measured and compared; turned games in blocks. No conditions. -/
import Derived.Test.YtmngmbpdiaocjaaGame3
namespace Go.Proofs.Ytmngmbpdiaocjaa
open Go.Joins Go.ChangeShapes Go.WideShapes Go.ChangeAt Go.RowKit Go.Deep
set_option linter.unusedVariables false

/-- How many numbers a game's rows hold. -/
def gmN (an1 an2 mn bn1 bn2 : Nat) : Int := (an1 : Int) + an2 + mn + bn1 + bn2
/-- The rest behind a game. -/
def szW (left n : Int) : Int := if n ≤ left then left - n else -1
theorem szW_yes {left n : Int} (h : n ≤ left) : szW left n = left - n := if_pos h
theorem szW_no {left n : Int} (h : ¬ n ≤ left) : szW left n = -1 := if_neg h
set_option maxHeartbeats 4000000 in
set_option maxRecDepth 100000 in
theorem szG_any (ggp ggs ggc ggl : Int) (ggst ggsk ggre ggfe ggag : Bool) (gga1 gga2 : Option Addr) (ggan1 ggac1 ggan2 ggac2 : Nat) (ggap : Int) (ggm : Option Addr) (ggmn ggmc : Nat) (ggb1 ggb2 : Option Addr) (ggbn1 ggbc1 ggbn2 ggbc2 : Nat) (ggbp ggrg : Int) (left : Int) (hl : 0 ≤ left) (hl2 : left ≤ 1048576) (ha1 : ggan1 ≤ 9223372036854775807) (ha2 : ggan2 ≤ 9223372036854775807) (hm : ggmn ≤ 9223372036854775807) (hb1 : ggbn1 ≤ 9223372036854775807) (hb2 : ggbn2 ≤ 9223372036854775807) (w : World) :
    Calls Try.prog 8 #[.agg #[.int .i64 ggp, .int .i64 ggs, .bool ggst, .bool ggsk, .bool ggre, .bool ggfe, .bool ggag, .int .i64 ggc, .int .i64 ggl, .slice gga1 ggan1 ggac1, .slice gga2 ggan2 ggac2, .int .i64 ggap, .slice ggm ggmn ggmc, .slice ggb1 ggbn1 ggbc1, .slice ggb2 ggbn2 ggbc2, .int .i64 ggbp, .int .i64 ggrg], .int .i64 left] w fun e w' => e = .returned (.int .i64 (szW left (gmN ggan1 ggan2 ggmn ggbn1 ggbn2))) ∧ Below w.heap.size w w' := by
  unfold gmN
  by_cases h1 : (ggan1 : Int) + ggan2 ≤ left
  rotate_left
  · have E1 := Lib.hid (szV_no h1)
    rw [szW_no (by omega)]
    go_enter Try.func8, Try.ntmps8
    go_wp2_with fail
    refine (szP_any gga1 gga2 ggan1 ggac1 ggan2 ggac2 ggap left hl hl2 ha1 ha2 _).mono ?_
    rintro e u1 ⟨rfl, b1⟩
    rw [E1.out]
    have B1 := Lib.hid ((al1 w (.cells #[.int .i64 ggp, .int .i64 ggs, .bool ggst, .bool ggsk, .bool ggre, .bool ggfe, .bool ggag, .int .i64 ggc, .int .i64 ggl, .slice gga1 ggan1 ggac1, .slice gga2 ggan2 ggac2, .int .i64 ggap, .slice ggm ggmn ggmc, .slice ggb1 ggbn1 ggbc1, .slice ggb2 ggbn2 ggbc2, .int .i64 ggbp, .int .i64 ggrg] 28)).trans (b1.mono (by simp)))
    clear b1
    go_wp2_with fail
    go_ret
    exact ⟨rfl, B1.out⟩
  have E1 := Lib.hid (szV_yes h1)
  by_cases h2 : (ggmn : Int) ≤ left - ggan1 - ggan2
  rotate_left
  · have e2 : (if (ggmn : Int) ≤ left - ggan1 - ggan2 then left - ggan1 - ggan2 - ggmn else -1) = -1 := if_neg h2
    have E2 := Lib.hid e2
    have q0 : 0 ≤ left - ggan1 - ggan2 := by omega
    rw [szW_no (by omega)]
    clear e2
    go_enter Try.func8, Try.ntmps8
    go_wp2_with fail
    refine (szP_any gga1 gga2 ggan1 ggac1 ggan2 ggac2 ggap left hl hl2 ha1 ha2 _).mono ?_
    rintro e u1 ⟨rfl, b1⟩
    rw [E1.out]
    have A1 := Lib.hid ((gm_new ggp ggs ggc ggl ggst ggsk ggre ggfe ggag gga1 gga2 ggan1 ggac1 ggan2 ggac2 ggap ggm ggmn ggmc ggb1 ggb2 ggbn1 ggbc1 ggbn2 ggbc2 ggbp ggrg w 28).below b1)
    have B1 := Lib.hid ((al1 w (.cells #[.int .i64 ggp, .int .i64 ggs, .bool ggst, .bool ggsk, .bool ggre, .bool ggfe, .bool ggag, .int .i64 ggc, .int .i64 ggl, .slice gga1 ggan1 ggac1, .slice gga2 ggan2 ggac2, .int .i64 ggap, .slice ggm ggmn ggmc, .slice ggb1 ggbn1 ggbc1, .slice ggb2 ggbn2 ggbc2, .int .i64 ggbp, .int .i64 ggrg] 28)).trans (b1.mono (by simp)))
    clear b1
    obtain ⟨_, d0, d1, d2, d3, d4, d5, d6, d7, d8, d9, d10, d11, d12, d13, d14, d15, d16⟩ := A1.out
    go_wp2_with fail
    refine (szN_any ggm ggmc ggmn _ q0 (by omega) hm _).mono ?_
    rintro e w' ⟨rfl, rfl⟩
    rw [E2.out]
    go_wp2_with fail
    go_ret
    exact ⟨rfl, B1.out⟩
  have e2 : (if (ggmn : Int) ≤ left - ggan1 - ggan2 then left - ggan1 - ggan2 - ggmn else -1) = left - ggan1 - ggan2 - ggmn := if_pos h2
  have E2 := Lib.hid e2
  have q0 : 0 ≤ left - ggan1 - ggan2 := by omega
  have q1 : 0 ≤ left - ggan1 - ggan2 - ggmn := by omega
  obtain ⟨t, ht, hz⟩ : ∃ t, szV (left - ggan1 - ggan2 - ggmn) ggbn1 ggbn2 = t ∧ (szW left ((ggan1 : Int) + ggan2 + ggmn + ggbn1 + ggbn2) = if t < 0 then -1 else t) := by
    refine ⟨_, rfl, ?_⟩
    by_cases h3 : (ggbn1 : Int) + ggbn2 ≤ left - ggan1 - ggan2 - ggmn
    · rw [szV_yes h3, szW_yes (by omega), if_neg (by omega)]
      omega
    · rw [szV_no h3, szW_no (by omega)]
      rfl
  have E3 := Lib.hid ht
  obtain ⟨r, hr⟩ : ∃ r, (if t < 0 then (-1 : Int) else t) = r := ⟨_, rfl⟩
  rw [hz, hr]
  have HR := Lib.hid hr
  clear e2 ht hz hr
  go_enter Try.func8, Try.ntmps8
  go_wp2_with fail
  refine (szP_any gga1 gga2 ggan1 ggac1 ggan2 ggac2 ggap left hl hl2 ha1 ha2 _).mono ?_
  rintro e u1 ⟨rfl, b1⟩
  rw [E1.out]
  have A1 := Lib.hid ((gm_new ggp ggs ggc ggl ggst ggsk ggre ggfe ggag gga1 gga2 ggan1 ggac1 ggan2 ggac2 ggap ggm ggmn ggmc ggb1 ggb2 ggbn1 ggbc1 ggbn2 ggbc2 ggbp ggrg w 28).below b1)
  have B1 := Lib.hid ((al1 w (.cells #[.int .i64 ggp, .int .i64 ggs, .bool ggst, .bool ggsk, .bool ggre, .bool ggfe, .bool ggag, .int .i64 ggc, .int .i64 ggl, .slice gga1 ggan1 ggac1, .slice gga2 ggan2 ggac2, .int .i64 ggap, .slice ggm ggmn ggmc, .slice ggb1 ggbn1 ggbc1, .slice ggb2 ggbn2 ggbc2, .int .i64 ggbp, .int .i64 ggrg] 28)).trans (b1.mono (by simp)))
  clear b1
  obtain ⟨_, d0, d1, d2, d3, d4, d5, d6, d7, d8, d9, d10, d11, d12, d13, d14, d15, d16⟩ := A1.out
  go_wp2_with fail
  refine (szN_any ggm ggmc ggmn _ q0 (by omega) hm _).mono ?_
  rintro e w' ⟨rfl, rfl⟩
  rw [E2.out]
  go_wp2_with fail
  refine (szP_any ggb1 ggb2 ggbn1 ggbc1 ggbn2 ggbc2 ggbp _ q1 (by omega) hb1 hb2 _).mono ?_
  rintro e u3 ⟨rfl, b3⟩
  rw [E3.out]
  have B3 := Lib.hid (B1.out.trans (b3.mono B1.out.size))
  clear b3
  by_cases hlt : t < 0
  · obtain rfl : r = -1 := by rw [← HR.out, if_pos hlt]
    go_wp2_with fail
    go_ret
    exact ⟨rfl, B3.out⟩
  · obtain rfl : r = t := by rw [← HR.out, if_neg hlt]
    go_wp2_with fail
    go_ret
    exact ⟨rfl, B3.out⟩
theorem eqRulesG_same (p s c l : Int) (st sk re fe ag : Bool) (w : World) :
    Calls Try.prog 35 #[.agg #[.int .i64 p, .int .i64 s, .bool st, .bool sk, .bool re, .bool fe, .bool ag, .int .i64 c, .int .i64 l], .agg #[.int .i64 p, .int .i64 s, .bool st, .bool sk, .bool re, .bool fe, .bool ag, .int .i64 c, .int .i64 l]] w fun e w' => e = .returned (.bool true) ∧ Below w.heap.size w w' := by
  go_enter Try.func35, Try.ntmps35
  go_wp2
  go_ret
  exact ⟨rfl, (by repeat (first | exact Below.refl _ _ | assumption | (refine Below.drew ?_) | (refine Below.setCell ?_ (by first | omega | (simp; done) | (simp; omega)) _) | (refine Below.alloc ?_ (by first | omega | (simp; done) | (simp; omega)) _) | (refine Below.trans ?_ (Below.mono (by assumption) (by first | omega | (simp; done) | (simp; omega))))))⟩
set_option maxHeartbeats 4000000 in
set_option maxRecDepth 100000 in
theorem eqG_same (ggp ggs ggc ggl : Int) (ggst ggsk ggre ggfe ggag : Bool) (gga1 gga2 : Option Addr) (ggan1 ggac1 ggan2 ggac2 : Nat) (ggap : Int) (ggm : Option Addr) (ggmn ggmc : Nat) (ggb1 ggb2 : Option Addr) (ggbn1 ggbc1 ggbn2 ggbc2 : Nat) (ggbp ggrg : Int) (hha1 hha2 : Option Addr) (hhac1 hhac2 : Nat) (hhm : Option Addr) (hhmc : Nat) (hhb1 hhb2 : Option Addr) (hhbc1 hhbc2 : Nat) (sx sy ms nx ny : List Int) (w : World) (h1 : GamR w gga1 gga2 ggan1 ggan2 ggm ggmn ggb1 ggb2 ggbn1 ggbn2 sx sy ms nx ny) (h2 : GamR w hha1 hha2 ggan1 ggan2 hhm ggmn hhb1 hhb2 ggbn1 ggbn2 sx sy ms nx ny) :
    Calls Try.prog 12 #[.agg #[.int .i64 ggp, .int .i64 ggs, .bool ggst, .bool ggsk, .bool ggre, .bool ggfe, .bool ggag, .int .i64 ggc, .int .i64 ggl, .slice gga1 ggan1 ggac1, .slice gga2 ggan2 ggac2, .int .i64 ggap, .slice ggm ggmn ggmc, .slice ggb1 ggbn1 ggbc1, .slice ggb2 ggbn2 ggbc2, .int .i64 ggbp, .int .i64 ggrg], .agg #[.int .i64 ggp, .int .i64 ggs, .bool ggst, .bool ggsk, .bool ggre, .bool ggfe, .bool ggag, .int .i64 ggc, .int .i64 ggl, .slice hha1 ggan1 hhac1, .slice hha2 ggan2 hhac2, .int .i64 ggap, .slice hhm ggmn hhmc, .slice hhb1 ggbn1 hhbc1, .slice hhb2 ggbn2 hhbc2, .int .i64 ggbp, .int .i64 ggrg]] w fun e w' => e = .returned (.bool true) ∧ Below w.heap.size w w' := by
  have HS := Lib.hid (tg2_new ggp ggs ggc ggl ggst ggsk ggre ggfe ggag gga1 gga2 ggan1 ggac1 ggan2 ggac2 ggap ggm ggmn ggmc ggb1 ggb2 ggbn1 ggbc1 ggbn2 ggbc2 ggbp ggrg ggp ggs ggc ggl ggst ggsk ggre ggfe ggag hha1 hha2 ggan1 hhac1 ggan2 hhac2 ggap hhm ggmn hhmc hhb1 hhb2 ggbn1 hhbc1 ggbn2 hhbc2 ggbp ggrg w 34)
  have H1 := Lib.hid h1
  have H2 := Lib.hid h2
  clear h1 h2
  go_enter Try.func12, Try.ntmps12
  go_wp2_with fail
  refine (eqRulesG_same ggp ggs ggc ggl ggst ggsk ggre ggfe ggag _).mono ?_
  rintro e u1 ⟨rfl, hb⟩
  have HS := Lib.hid (HS.out.below hb)
  clear hb
  obtain ⟨⟨_, d0, d1, d2, d3, d4, d5, d6, d7, d8, d9, d10, d11, d12, d13, d14, d15, d16⟩, ⟨_, e0, e1, e2, e3, e4, e5, e6, e7, e8, e9, e10, e11, e12, e13, e14, e15, e16⟩, _⟩ := HS.out
  go_wp2_with fail
  refine (eqP_same gga1 gga2 hha1 hha2 ggan1 ggan2 ggac1 ggac2 hhac1 hhac2 ggap sx sy _ (H1.out.s.below HS.out.2.2) (H2.out.s.below HS.out.2.2)).mono ?_
  rintro e u2 ⟨rfl, hb⟩
  clear d0 e0 d1 e1 d2 e2 d3 e3 d4 e4 d5 e5 d6 e6 d7 e7 d8 e8 d9 e9 d10 e10 d11 e11 d12 e12 d13 e13 d14 e14 d15 e15 d16 e16
  have HS := Lib.hid (HS.out.below hb)
  clear hb
  obtain ⟨⟨_, d0, d1, d2, d3, d4, d5, d6, d7, d8, d9, d10, d11, d12, d13, d14, d15, d16⟩, ⟨_, e0, e1, e2, e3, e4, e5, e6, e7, e8, e9, e10, e11, e12, e13, e14, e15, e16⟩, _⟩ := HS.out
  go_wp2_with fail
  refine (eqN_same ggm hhm ggmc hhmc ggmn ms _ H1.out.lm (H1.out.m.below HS.out.2.2) (H2.out.m.below HS.out.2.2)).mono ?_
  rintro e u3 ⟨rfl, hb⟩
  clear d0 e0 d1 e1 d2 e2 d3 e3 d4 e4 d5 e5 d6 e6 d7 e7 d8 e8 d9 e9 d10 e10 d11 e11 d12 e12 d13 e13 d14 e14 d15 e15 d16 e16
  have HS := Lib.hid (HS.out.below hb)
  clear hb
  obtain ⟨⟨_, d0, d1, d2, d3, d4, d5, d6, d7, d8, d9, d10, d11, d12, d13, d14, d15, d16⟩, ⟨_, e0, e1, e2, e3, e4, e5, e6, e7, e8, e9, e10, e11, e12, e13, e14, e15, e16⟩, _⟩ := HS.out
  go_wp2_with fail
  refine (eqP_same ggb1 ggb2 hhb1 hhb2 ggbn1 ggbn2 ggbc1 ggbc2 hhbc1 hhbc2 ggbp nx ny _ (H1.out.n.below HS.out.2.2) (H2.out.n.below HS.out.2.2)).mono ?_
  rintro e u4 ⟨rfl, hb⟩
  clear d0 e0 d1 e1 d2 e2 d3 e3 d4 e4 d5 e5 d6 e6 d7 e7 d8 e8 d9 e9 d10 e10 d11 e11 d12 e12 d13 e13 d14 e14 d15 e15 d16 e16
  have HS := Lib.hid (HS.out.below hb)
  clear hb
  obtain ⟨⟨_, d0, d1, d2, d3, d4, d5, d6, d7, d8, d9, d10, d11, d12, d13, d14, d15, d16⟩, ⟨_, e0, e1, e2, e3, e4, e5, e6, e7, e8, e9, e10, e11, e12, e13, e14, e15, e16⟩, _⟩ := HS.out
  go_wp2_with fail
  go_ret
  exact ⟨rfl, HS.out.2.2⟩
/-- A turned game in a block: its rows are the call's own. -/
def TgAt (u : World) (A : Nat) (p s c l : Int) (st sk re fe ag : Bool) (an1 an2 : Nat) (ap : Int) (mn bn1 bn2 : Nat) (bp rg : Int) (sx sy ms nx ny : List Int) : Prop :=
  ∃ g1 g2 g3 g4 g5 : Nat, GmAt u A p s c l st sk re fe ag (some ⟨g1, 0, none⟩) (some ⟨g2, 0, none⟩) an1 an1 an2 an2 ap (some ⟨g3, 0, none⟩) mn mn (some ⟨g4, 0, none⟩) (some ⟨g5, 0, none⟩) bn1 bn1 bn2 bn2 bp rg ∧ GamR u (some ⟨g1, 0, none⟩) (some ⟨g2, 0, none⟩) an1 an2 (some ⟨g3, 0, none⟩) mn (some ⟨g4, 0, none⟩) (some ⟨g5, 0, none⟩) bn1 bn2 sx sy ms nx ny
theorem TgAt.below {u v : World} {A : Nat} {p s c l : Int} {st sk re fe ag : Bool} {an1 an2 : Nat} {ap : Int} {mn bn1 bn2 : Nat} {bp rg : Int} {sx sy ms nx ny : List Int} (h : TgAt u A p s c l st sk re fe ag an1 an2 ap mn bn1 bn2 bp rg sx sy ms nx ny) (k : Below u.heap.size u v) : TgAt v A p s c l st sk re fe ag an1 an2 ap mn bn1 bn2 bp rg sx sy ms nx ny := by
  obtain ⟨g1, g2, g3, g4, g5, h1, h2⟩ := h
  exact ⟨g1, g2, g3, g4, g5, h1.below k, h2.below k⟩
theorem gm_of_rg {u : World} {b : Nat} {ggp ggs ggc ggl : Int} {ggst ggsk ggre ggfe ggag : Bool} {gga1 gga2 : Option Addr} {ggan1 ggac1 ggan2 ggac2 : Nat} {ggap : Int} {ggm : Option Addr} {ggmn ggmc : Nat} {ggb1 ggb2 : Option Addr} {ggbn1 ggbc1 ggbn2 ggbc2 : Nat} {ggbp ggrg : Int} (hb : b < u.heap.size) (h : u.rangeAt b 0 [.int .i64 ggp, .int .i64 ggs, .bool ggst, .bool ggsk, .bool ggre, .bool ggfe, .bool ggag, .int .i64 ggc, .int .i64 ggl, .slice gga1 ggan1 ggac1, .slice gga2 ggan2 ggac2, .int .i64 ggap, .slice ggm ggmn ggmc, .slice ggb1 ggbn1 ggbc1, .slice ggb2 ggbn2 ggbc2, .int .i64 ggbp, .int .i64 ggrg]) : GmAt u b ggp ggs ggc ggl ggst ggsk ggre ggfe ggag gga1 gga2 ggan1 ggac1 ggan2 ggac2 ggap ggm ggmn ggmc ggb1 ggb2 ggbn1 ggbc1 ggbn2 ggbc2 ggbp ggrg :=
  ⟨hb, h 0 _ rfl, h 1 _ rfl, h 2 _ rfl, h 3 _ rfl, h 4 _ rfl, h 5 _ rfl, h 6 _ rfl, h 7 _ rfl, h 8 _ rfl, h 9 _ rfl, h 10 _ rfl, h 11 _ rfl, h 12 _ rfl, h 13 _ rfl, h 14 _ rfl, h 15 _ rfl, h 16 _ rfl⟩
theorem there17 (v : World) (T : TypeId) : (v.alloc (.cells #[.int .i64 0, .int .i64 0, .bool false, .bool false, .bool false, .bool false, .bool false, .int .i64 0, .int .i64 0, .slice none 0 0, .slice none 0 0, .int .i64 0, .slice none 0 0, .slice none 0 0, .slice none 0 0, .int .i64 0, .int .i64 0] T)).there v.heap.size 0 17 := (g17_new v T).there
/-- A turned game stored into a variable. -/
theorem tg_stored {v : World} {B : Nat} {p s c l : Int} {st sk re fe ag : Bool} {g1 g2 g3 g4 g5 an1 an2 : Nat} {ap : Int} {mn bn1 bn2 : Nat} {bp rg : Int} {sx sy ms nx ny : List Int} (T : TypeId)
    (h : GamO v B (some ⟨g1, 0, none⟩) (some ⟨g2, 0, none⟩) g1 g2 an1 an2 (some ⟨g3, 0, none⟩) g3 mn (some ⟨g4, 0, none⟩) (some ⟨g5, 0, none⟩) g4 g5 bn1 bn2 sx sy ms nx ny) :
    TgAt ((v.alloc (.cells #[.int .i64 0, .int .i64 0, .bool false, .bool false, .bool false, .bool false, .bool false, .int .i64 0, .int .i64 0, .slice none 0 0, .slice none 0 0, .int .i64 0, .slice none 0 0, .slice none 0 0, .slice none 0 0, .int .i64 0, .int .i64 0] T)).setCells v.heap.size 0 [.int .i64 p, .int .i64 s, .bool st, .bool sk, .bool re, .bool fe, .bool ag, .int .i64 c, .int .i64 l, .slice (some ⟨g1, 0, none⟩) an1 an1, .slice (some ⟨g2, 0, none⟩) an2 an2, .int .i64 ap, .slice (some ⟨g3, 0, none⟩) mn mn, .slice (some ⟨g4, 0, none⟩) bn1 bn1, .slice (some ⟨g5, 0, none⟩) bn2 bn2, .int .i64 bp, .int .i64 rg]) v.heap.size p s c l st sk re fe ag an1 an2 ap mn bn1 bn2 bp rg sx sy ms nx ny :=
  ⟨g1, g2, g3, g4, g5, gm_of_rg (by rw [size_scg]; simp) (World.rangeAt_setCells_same _ _ 0 [.int .i64 p, .int .i64 s, .bool st, .bool sk, .bool re, .bool fe, .bool ag, .int .i64 c, .int .i64 l, .slice (some ⟨g1, 0, none⟩) an1 an1, .slice (some ⟨g2, 0, none⟩) an2 an2, .int .i64 ap, .slice (some ⟨g3, 0, none⟩) mn mn, .slice (some ⟨g4, 0, none⟩) bn1 bn1, .slice (some ⟨g5, 0, none⟩) bn2 bn2, .int .i64 bp, .int .i64 rg] (there17 v T)), h.r.below (below_scg v.heap.size (Nat.le_refl _) _ 0 (al1 v _))⟩
theorem below_stored (v : World) (T : TypeId) (vs : List Value) : Below v.heap.size v ((v.alloc (.cells #[.int .i64 0, .int .i64 0, .bool false, .bool false, .bool false, .bool false, .bool false, .int .i64 0, .int .i64 0, .slice none 0 0, .slice none 0 0, .int .i64 0, .slice none 0 0, .slice none 0 0, .slice none 0 0, .int .i64 0, .int .i64 0] T)).setCells v.heap.size 0 vs) := below_scg v.heap.size (Nat.le_refl _) _ 0 (al1 v _)
end Go.Proofs.Ytmngmbpdiaocjaa
