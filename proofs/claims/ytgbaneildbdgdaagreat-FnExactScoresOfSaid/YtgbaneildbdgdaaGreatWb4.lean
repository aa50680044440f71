/- Game3, Game4, Game5, Game6, Off8, Game7, Bp8, Maj13, Wat, Cap13, RefC3, RefTk, Scope, Stp5, Steps5, Mov5, one after the other (what the laws reach of them). No conditions. -/
import Derived.Test.YtgbaneildbdgdaaGreatWb2
import Derived.Scope
import Derived.ControlIn
import Derived.Test.YtgbaneildbdgdaaGreatLast5
import Derived.Sort.QuietIn
namespace Go.Proofs.YtgbaneildbdgdaaGreat
open Go.Joins Go.ChangeShapes Go.WideShapes Go.ChangeAt Go.RowKit Go.Deep
set_option linter.unusedVariables false
set_option maxHeartbeats 8000000
set_option maxRecDepth 100000
/- Game3 -/
def TG2 (w : World) (Jp Js Jc Jl : Int) (Jst Jsk Jre Jfe Jag : Bool) (Ja1 Ja2 : Option Addr) (Jan1 Jac1 Jan2 Jac2 : Nat) (Jap : Int) (Jm : Option Addr) (Jmn Jmc : Nat) (Jb1 Jb2 : Option Addr) (Jbn1 Jbc1 Jbn2 Jbc2 : Nat) (Jbp Jrg : Int) (hhp hhs hhc hhl : Int) (hhst hhsk hhre hhfe hhag : Bool) (hha1 hha2 : Option Addr) (hhan1 hhac1 hhan2 hhac2 : Nat) (hhap : Int) (hhm : Option Addr) (hhmn hhmc : Nat) (hhb1 hhb2 : Option Addr) (hhbn1 hhbc1 hhbn2 hhbc2 : Nat) (hhbp hhrg : Int) (u : World) : Prop := GmAt u w.heap.size Jp Js Jc Jl Jst Jsk Jre Jfe Jag Ja1 Ja2 Jan1 Jac1 Jan2 Jac2 Jap Jm Jmn Jmc Jb1 Jb2 Jbn1 Jbc1 Jbn2 Jbc2 Jbp Jrg ∧ GmAt u (w.heap.size + 1) hhp hhs hhc hhl hhst hhsk hhre hhfe hhag hha1 hha2 hhan1 hhac1 hhan2 hhac2 hhap hhm hhmn hhmc hhb1 hhb2 hhbn1 hhbc1 hhbn2 hhbc2 hhbp hhrg ∧ Below w.heap.size w u
theorem tg2_new (Jp Js Jc Jl : Int) (Jst Jsk Jre Jfe Jag : Bool) (Ja1 Ja2 : Option Addr) (Jan1 Jac1 Jan2 Jac2 : Nat) (Jap : Int) (Jm : Option Addr) (Jmn Jmc : Nat) (Jb1 Jb2 : Option Addr) (Jbn1 Jbc1 Jbn2 Jbc2 : Nat) (Jbp Jrg : Int) (hhp hhs hhc hhl : Int) (hhst hhsk hhre hhfe hhag : Bool) (hha1 hha2 : Option Addr) (hhan1 hhac1 hhan2 hhac2 : Nat) (hhap : Int) (hhm : Option Addr) (hhmn hhmc : Nat) (hhb1 hhb2 : Option Addr) (hhbn1 hhbc1 hhbn2 hhbc2 : Nat) (hhbp hhrg : Int) (w : World) (T : TypeId) : TG2 w Jp Js Jc Jl Jst Jsk Jre Jfe Jag Ja1 Ja2 Jan1 Jac1 Jan2 Jac2 Jap Jm Jmn Jmc Jb1 Jb2 Jbn1 Jbc1 Jbn2 Jbc2 Jbp Jrg hhp hhs hhc hhl hhst hhsk hhre hhfe hhag hha1 hha2 hhan1 hhac1 hhan2 hhac2 hhap hhm hhmn hhmc hhb1 hhb2 hhbn1 hhbc1 hhbn2 hhbc2 hhbp hhrg ((w.alloc (.cells #[.int .i64 Jp, .int .i64 Js, .bool Jst, .bool Jsk, .bool Jre, .bool Jfe, .bool Jag, .int .i64 Jc, .int .i64 Jl, .slice Ja1 Jan1 Jac1, .slice Ja2 Jan2 Jac2, .int .i64 Jap, .slice Jm Jmn Jmc, .slice Jb1 Jbn1 Jbc1, .slice Jb2 Jbn2 Jbc2, .int .i64 Jbp, .int .i64 Jrg] T)).alloc (.cells #[.int .i64 hhp, .int .i64 hhs, .bool hhst, .bool hhsk, .bool hhre, .bool hhfe, .bool hhag, .int .i64 hhc, .int .i64 hhl, .slice hha1 hhan1 hhac1, .slice hha2 hhan2 hhac2, .int .i64 hhap, .slice hhm hhmn hhmc, .slice hhb1 hhbn1 hhbc1, .slice hhb2 hhbn2 hhbc2, .int .i64 hhbp, .int .i64 hhrg] T)) := by
 have k := al1 (w.alloc (.cells #[.int .i64 Jp, .int .i64 Js, .bool Jst, .bool Jsk, .bool Jre, .bool Jfe, .bool Jag, .int .i64 Jc, .int .i64 Jl, .slice Ja1 Jan1 Jac1, .slice Ja2 Jan2 Jac2, .int .i64 Jap, .slice Jm Jmn Jmc, .slice Jb1 Jbn1 Jbc1, .slice Jb2 Jbn2 Jbc2, .int .i64 Jbp, .int .i64 Jrg] T)) (.cells #[.int .i64 hhp, .int .i64 hhs, .bool hhst, .bool hhsk, .bool hhre, .bool hhfe, .bool hhag, .int .i64 hhc, .int .i64 hhl, .slice hha1 hhan1 hhac1, .slice hha2 hhan2 hhac2, .int .i64 hhap, .slice hhm hhmn hhmc, .slice hhb1 hhbn1 hhbc1, .slice hhb2 hhbn2 hhbc2, .int .i64 hhbp, .int .i64 hhrg] T)
 have z := gm_new hhp hhs hhc hhl hhst hhsk hhre hhfe hhag hha1 hha2 hhan1 hhac1 hhan2 hhac2 hhap hhm hhmn hhmc hhb1 hhb2 hhbn1 hhbc1 hhbn2 hhbc2 hhbp hhrg (w.alloc (.cells #[.int .i64 Jp, .int .i64 Js, .bool Jst, .bool Jsk, .bool Jre, .bool Jfe, .bool Jag, .int .i64 Jc, .int .i64 Jl, .slice Ja1 Jan1 Jac1, .slice Ja2 Jan2 Jac2, .int .i64 Jap, .slice Jm Jmn Jmc, .slice Jb1 Jbn1 Jbc1, .slice Jb2 Jbn2 Jbc2, .int .i64 Jbp, .int .i64 Jrg] T)) T
 rw [show (w.alloc (.cells #[.int .i64 Jp, .int .i64 Js, .bool Jst, .bool Jsk, .bool Jre, .bool Jfe, .bool Jag, .int .i64 Jc, .int .i64 Jl, .slice Ja1 Jan1 Jac1, .slice Ja2 Jan2 Jac2, .int .i64 Jap, .slice Jm Jmn Jmc, .slice Jb1 Jbn1 Jbc1, .slice Jb2 Jbn2 Jbc2, .int .i64 Jbp, .int .i64 Jrg] T)).heap.size = w.heap.size + 1 by simp] at z
 exact ⟨(gm_new Jp Js Jc Jl Jst Jsk Jre Jfe Jag Ja1 Ja2 Jan1 Jac1 Jan2 Jac2 Jap Jm Jmn Jmc Jb1 Jb2 Jbn1 Jbc1 Jbn2 Jbc2 Jbp Jrg w T).below k, z, (al1 w _).trans (k.mono (by simp))⟩
theorem TG2.below {w u v : World} {Jp Js Jc Jl : Int} {Jst Jsk Jre Jfe Jag : Bool} {Ja1 Ja2 : Option Addr} {Jan1 Jac1 Jan2 Jac2 : Nat} {Jap : Int} {Jm : Option Addr} {Jmn Jmc : Nat} {Jb1 Jb2 : Option Addr} {Jbn1 Jbc1 Jbn2 Jbc2 : Nat} {Jbp Jrg : Int} {hhp hhs hhc hhl : Int} {hhst hhsk hhre hhfe hhag : Bool} {hha1 hha2 : Option Addr} {hhan1 hhac1 hhan2 hhac2 : Nat} {hhap : Int} {hhm : Option Addr} {hhmn hhmc : Nat} {hhb1 hhb2 : Option Addr} {hhbn1 hhbc1 hhbn2 hhbc2 : Nat} {hhbp hhrg : Int} (h : TG2 w Jp Js Jc Jl Jst Jsk Jre Jfe Jag Ja1 Ja2 Jan1 Jac1 Jan2 Jac2 Jap Jm Jmn Jmc Jb1 Jb2 Jbn1 Jbc1 Jbn2 Jbc2 Jbp Jrg hhp hhs hhc hhl hhst hhsk hhre hhfe hhag hha1 hha2 hhan1 hhac1 hhan2 hhac2 hhap hhm hhmn hhmc hhb1 hhb2 hhbn1 hhbc1 hhbn2 hhbc2 hhbp hhrg u) (k : Below u.heap.size u v) : TG2 w Jp Js Jc Jl Jst Jsk Jre Jfe Jag Ja1 Ja2 Jan1 Jac1 Jan2 Jac2 Jap Jm Jmn Jmc Jb1 Jb2 Jbn1 Jbc1 Jbn2 Jbc2 Jbp Jrg hhp hhs hhc hhl hhst hhsk hhre hhfe hhag hha1 hha2 hhan1 hhac1 hhan2 hhac2 hhap hhm hhmn hhmc hhb1 hhb2 hhbn1 hhbc1 hhbn2 hhbc2 hhbp hhrg v :=
 ⟨h.1.below k, h.2.1.below k, h.2.2.trans (k.mono h.2.2.size)⟩
def At3 (u : World) (b : Nat) (a1 a2 : Option Addr) (n1 c1 n2 c2 : Nat) (pl : Int) (o0 o1 o2 : Nat) : Prop :=
 b < u.heap.size ∧ u.cell? ⟨b, o0, none⟩ = some (.slice a1 n1 c1) ∧ u.cell? ⟨b, o1, none⟩ = some (.slice a2 n2 c2) ∧ u.cell? ⟨b, o2, none⟩ = some (.int .i64 pl)
theorem GmAt.s9 {u : World} {b : Nat} {Jp Js Jc Jl : Int} {Jst Jsk Jre Jfe Jag : Bool} {Ja1 Ja2 : Option Addr} {Jan1 Jac1 Jan2 Jac2 : Nat} {Jap : Int} {Jm : Option Addr} {Jmn Jmc : Nat} {Jb1 Jb2 : Option Addr} {Jbn1 Jbc1 Jbn2 Jbc2 : Nat} {Jbp Jrg : Int} (h : GmAt u b Jp Js Jc Jl Jst Jsk Jre Jfe Jag Ja1 Ja2 Jan1 Jac1 Jan2 Jac2 Jap Jm Jmn Jmc Jb1 Jb2 Jbn1 Jbc1 Jbn2 Jbc2 Jbp Jrg) : At3 u b Ja1 Ja2 Jan1 Jac1 Jan2 Jac2 Jap 9 10 11 := ⟨h.1, h.2.2.2.2.2.2.2.2.2.2.1, h.2.2.2.2.2.2.2.2.2.2.2.1, h.2.2.2.2.2.2.2.2.2.2.2.2.1⟩
theorem GmAt.s13 {u : World} {b : Nat} {Jp Js Jc Jl : Int} {Jst Jsk Jre Jfe Jag : Bool} {Ja1 Ja2 : Option Addr} {Jan1 Jac1 Jan2 Jac2 : Nat} {Jap : Int} {Jm : Option Addr} {Jmn Jmc : Nat} {Jb1 Jb2 : Option Addr} {Jbn1 Jbc1 Jbn2 Jbc2 : Nat} {Jbp Jrg : Int} (h : GmAt u b Jp Js Jc Jl Jst Jsk Jre Jfe Jag Ja1 Ja2 Jan1 Jac1 Jan2 Jac2 Jap Jm Jmn Jmc Jb1 Jb2 Jbn1 Jbc1 Jbn2 Jbc2 Jbp Jrg) : At3 u b Jb1 Jb2 Jbn1 Jbc1 Jbn2 Jbc2 Jbp 13 14 15 := ⟨h.1, h.2.2.2.2.2.2.2.2.2.2.2.2.2.2.1, h.2.2.2.2.2.2.2.2.2.2.2.2.2.2.2.1, h.2.2.2.2.2.2.2.2.2.2.2.2.2.2.2.2.1⟩
theorem TG2.drewN {w u : World} {Jp Js Jc Jl : Int} {Jst Jsk Jre Jfe Jag : Bool} {Ja1 Ja2 : Option Addr} {Jan1 Jac1 Jan2 Jac2 : Nat} {Jap : Int} {Jm : Option Addr} {Jmn Jmc : Nat} {Jb1 Jb2 : Option Addr} {Jbn1 Jbc1 Jbn2 Jbc2 : Nat} {Jbp Jrg : Int} {hhp hhs hhc hhl : Int} {hhst hhsk hhre hhfe hhag : Bool} {hha1 hha2 : Option Addr} {hhan1 hhac1 hhan2 hhac2 : Nat} {hhap : Int} {hhm : Option Addr} {hhmn hhmc : Nat} {hhb1 hhb2 : Option Addr} {hhbn1 hhbc1 hhbn2 hhbc2 : Nat} {hhbp hhrg : Int} (h : TG2 w Jp Js Jc Jl Jst Jsk Jre Jfe Jag Ja1 Ja2 Jan1 Jac1 Jan2 Jac2 Jap Jm Jmn Jmc Jb1 Jb2 Jbn1 Jbc1 Jbn2 Jbc2 Jbp Jrg hhp hhs hhc hhl hhst hhsk hhre hhfe hhag hha1 hha2 hhan1 hhac1 hhan2 hhac2 hhap hhm hhmn hhmc hhb1 hhb2 hhbn1 hhbc1 hhbn2 hhbc2 hhbp hhrg u) (m : Nat) : TG2 w Jp Js Jc Jl Jst Jsk Jre Jfe Jag Ja1 Ja2 Jan1 Jac1 Jan2 Jac2 Jap Jm Jmn Jmc Jb1 Jb2 Jbn1 Jbc1 Jbn2 Jbc2 Jbp Jrg hhp hhs hhc hhl hhst hhsk hhre hhfe hhag hha1 hha2 hhan1 hhac1 hhan2 hhac2 hhap hhm hhmn hhmc hhb1 hhb2 hhbn1 hhbc1 hhbn2 hhbc2 hhbp hhrg (u.drewN m) := h.below (below_dn (Below.refl _ _) m)
/- Game4 -/
def gmN (an1 an2 mn bn1 bn2 : Nat) : Int := (an1 : Int) + an2 + mn + bn1 + bn2
def szW (left n : Int) : Int := if n ≤ left then left - n else -1
theorem szW_yes {left n : Int} (h : n ≤ left) : szW left n = left - n := if_pos h
theorem szW_no {left n : Int} (h : ¬ n ≤ left) : szW left n = -1 := if_neg h
theorem szG_any (Jp Js Jc Jl : Int) (Jst Jsk Jre Jfe Jag : Bool) (Ja1 Ja2 : Option Addr) (Jan1 Jac1 Jan2 Jac2 : Nat) (Jap : Int) (Jm : Option Addr) (Jmn Jmc : Nat) (Jb1 Jb2 : Option Addr) (Jbn1 Jbc1 Jbn2 Jbc2 : Nat) (Jbp Jrg : Int) (left : Int) (hl : 0 ≤ left) (hl2 : left ≤ 1048576) (ha1 : Jan1 ≤ 9223372036854775807) (ha2 : Jan2 ≤ 9223372036854775807) (hm : Jmn ≤ 9223372036854775807) (hb1 : Jbn1 ≤ 9223372036854775807) (hb2 : Jbn2 ≤ 9223372036854775807) (w : World) :
  Calls Tryz.prog 12 #[.agg #[.int .i64 Jp, .int .i64 Js, .bool Jst, .bool Jsk, .bool Jre, .bool Jfe, .bool Jag, .int .i64 Jc, .int .i64 Jl, .slice Ja1 Jan1 Jac1, .slice Ja2 Jan2 Jac2, .int .i64 Jap, .slice Jm Jmn Jmc, .slice Jb1 Jbn1 Jbc1, .slice Jb2 Jbn2 Jbc2, .int .i64 Jbp, .int .i64 Jrg], .int .i64 left] w fun e w' => e = .returned (.int .i64 (szW left (gmN Jan1 Jan2 Jmn Jbn1 Jbn2))) ∧ Below w.heap.size w w' := by
 unfold gmN
 by_cases h1 : (Jan1 : Int) + Jan2 ≤ left
 rotate_left
 ·have E1 := Lib.hid (szV_no h1)
  rw [szW_no (by omega)]
  go_enter Tryz.func12, Tryz.ntmps12
  go_wp2_with fail
  refine (szP_any Ja1 Ja2 Jan1 Jac1 Jan2 Jac2 Jap left hl hl2 ha1 ha2 _).mono ?_
  rintro e u1 ⟨rfl, b1⟩
  rw [E1.out]
  have B1 := Lib.hid ((al1 w (.cells #[.int .i64 Jp, .int .i64 Js, .bool Jst, .bool Jsk, .bool Jre, .bool Jfe, .bool Jag, .int .i64 Jc, .int .i64 Jl, .slice Ja1 Jan1 Jac1, .slice Ja2 Jan2 Jac2, .int .i64 Jap, .slice Jm Jmn Jmc, .slice Jb1 Jbn1 Jbc1, .slice Jb2 Jbn2 Jbc2, .int .i64 Jbp, .int .i64 Jrg] 28)).trans (b1.mono (by simp)))
  clear b1
  go_wp2_with fail
  go_ret
  exact ⟨rfl, B1.out⟩
 have E1 := Lib.hid (szV_yes h1)
 by_cases h2 : (Jmn : Int) ≤ left - Jan1 - Jan2
 rotate_left
 ·have e2 : (if (Jmn : Int) ≤ left - Jan1 - Jan2 then left - Jan1 - Jan2 - Jmn else -1) = -1 := if_neg h2
  have E2 := Lib.hid e2
  have q0 : 0 ≤ left - Jan1 - Jan2 := by omega
  rw [szW_no (by omega)]
  clear e2
  go_enter Tryz.func12, Tryz.ntmps12
  go_wp2_with fail
  refine (szP_any Ja1 Ja2 Jan1 Jac1 Jan2 Jac2 Jap left hl hl2 ha1 ha2 _).mono ?_
  rintro e u1 ⟨rfl, b1⟩
  rw [E1.out]
  have A1 := Lib.hid ((gm_new Jp Js Jc Jl Jst Jsk Jre Jfe Jag Ja1 Ja2 Jan1 Jac1 Jan2 Jac2 Jap Jm Jmn Jmc Jb1 Jb2 Jbn1 Jbc1 Jbn2 Jbc2 Jbp Jrg w 28).below b1)
  have B1 := Lib.hid ((al1 w (.cells #[.int .i64 Jp, .int .i64 Js, .bool Jst, .bool Jsk, .bool Jre, .bool Jfe, .bool Jag, .int .i64 Jc, .int .i64 Jl, .slice Ja1 Jan1 Jac1, .slice Ja2 Jan2 Jac2, .int .i64 Jap, .slice Jm Jmn Jmc, .slice Jb1 Jbn1 Jbc1, .slice Jb2 Jbn2 Jbc2, .int .i64 Jbp, .int .i64 Jrg] 28)).trans (b1.mono (by simp)))
  clear b1
  obtain ⟨_, d0, d1, d2, d3, d4, d5, d6, d7, d8, d9, d10, d11, d12, d13, d14, d15, d16⟩ := A1.out
  go_wp2_with fail
  refine (szN_any Jm Jmc Jmn _ q0 (by omega) hm _).mono ?_
  rintro e w' ⟨rfl, rfl⟩
  rw [E2.out]
  go_wp2_with fail
  go_ret
  exact ⟨rfl, B1.out⟩
 have e2 : (if (Jmn : Int) ≤ left - Jan1 - Jan2 then left - Jan1 - Jan2 - Jmn else -1) = left - Jan1 - Jan2 - Jmn := if_pos h2
 have E2 := Lib.hid e2
 have q0 : 0 ≤ left - Jan1 - Jan2 := by omega
 have q1 : 0 ≤ left - Jan1 - Jan2 - Jmn := by omega
 obtain ⟨t, ht, hz⟩ : ∃ t, szV (left - Jan1 - Jan2 - Jmn) Jbn1 Jbn2 = t ∧ (szW left ((Jan1 : Int) + Jan2 + Jmn + Jbn1 + Jbn2) = if t < 0 then -1 else t) := by
  refine ⟨_, rfl, ?_⟩
  by_cases h3 : (Jbn1 : Int) + Jbn2 ≤ left - Jan1 - Jan2 - Jmn
  ·rw [szV_yes h3, szW_yes (by omega), if_neg (by omega)]
   omega
  ·rw [szV_no h3, szW_no (by omega)]
   rfl
 have E3 := Lib.hid ht
 obtain ⟨r, hr⟩ : ∃ r, (if t < 0 then (-1 : Int) else t) = r := ⟨_, rfl⟩
 rw [hz, hr]
 have HR := Lib.hid hr
 clear e2 ht hz hr
 go_enter Tryz.func12, Tryz.ntmps12
 go_wp2_with fail
 refine (szP_any Ja1 Ja2 Jan1 Jac1 Jan2 Jac2 Jap left hl hl2 ha1 ha2 _).mono ?_
 rintro e u1 ⟨rfl, b1⟩
 rw [E1.out]
 have A1 := Lib.hid ((gm_new Jp Js Jc Jl Jst Jsk Jre Jfe Jag Ja1 Ja2 Jan1 Jac1 Jan2 Jac2 Jap Jm Jmn Jmc Jb1 Jb2 Jbn1 Jbc1 Jbn2 Jbc2 Jbp Jrg w 28).below b1)
 have B1 := Lib.hid ((al1 w (.cells #[.int .i64 Jp, .int .i64 Js, .bool Jst, .bool Jsk, .bool Jre, .bool Jfe, .bool Jag, .int .i64 Jc, .int .i64 Jl, .slice Ja1 Jan1 Jac1, .slice Ja2 Jan2 Jac2, .int .i64 Jap, .slice Jm Jmn Jmc, .slice Jb1 Jbn1 Jbc1, .slice Jb2 Jbn2 Jbc2, .int .i64 Jbp, .int .i64 Jrg] 28)).trans (b1.mono (by simp)))
 clear b1
 obtain ⟨_, d0, d1, d2, d3, d4, d5, d6, d7, d8, d9, d10, d11, d12, d13, d14, d15, d16⟩ := A1.out
 go_wp2_with fail
 refine (szN_any Jm Jmc Jmn _ q0 (by omega) hm _).mono ?_
 rintro e w' ⟨rfl, rfl⟩
 rw [E2.out]
 go_wp2_with fail
 refine (szP_any Jb1 Jb2 Jbn1 Jbc1 Jbn2 Jbc2 Jbp _ q1 (by omega) hb1 hb2 _).mono ?_
 rintro e u3 ⟨rfl, b3⟩
 rw [E3.out]
 have B3 := Lib.hid (B1.out.trans (b3.mono B1.out.size))
 clear b3
 by_cases hlt : t < 0
 ·obtain rfl : r = -1 := by rw [← HR.out, if_pos hlt]
  go_wp2_with fail
  go_ret
  exact ⟨rfl, B3.out⟩
 ·obtain rfl : r = t := by rw [← HR.out, if_neg hlt]
  go_wp2_with fail
  go_ret
  exact ⟨rfl, B3.out⟩
theorem eqRulesG_same (p s c l : Int) (st sk re fe ag : Bool) (w : World) :
  Calls Tryz.prog 61 #[.agg #[.int .i64 p, .int .i64 s, .bool st, .bool sk, .bool re, .bool fe, .bool ag, .int .i64 c, .int .i64 l], .agg #[.int .i64 p, .int .i64 s, .bool st, .bool sk, .bool re, .bool fe, .bool ag, .int .i64 c, .int .i64 l]] w fun e w' => e = .returned (.bool true) ∧ Below w.heap.size w w' := by
 go_enter Tryz.func61, Tryz.ntmps61
 go_wp2
 go_ret
 exact ⟨rfl, (by repeat (first | exact Below.refl _ _ | assumption | (refine Below.drew ?_) | (refine Below.setCell ?_ (by first | omega | (simp; done) | (simp; omega)) _) | (refine Below.alloc ?_ (by first | omega | (simp; done) | (simp; omega)) _) | (refine Below.trans ?_ (Below.mono (by assumption) (by first | omega | (simp; done) | (simp; omega))))))⟩
theorem eqG_same (Jp Js Jc Jl : Int) (Jst Jsk Jre Jfe Jag : Bool) (Ja1 Ja2 : Option Addr) (Jan1 Jac1 Jan2 Jac2 : Nat) (Jap : Int) (Jm : Option Addr) (Jmn Jmc : Nat) (Jb1 Jb2 : Option Addr) (Jbn1 Jbc1 Jbn2 Jbc2 : Nat) (Jbp Jrg : Int) (hha1 hha2 : Option Addr) (hhac1 hhac2 : Nat) (hhm : Option Addr) (hhmc : Nat) (hhb1 hhb2 : Option Addr) (hhbc1 hhbc2 : Nat) (sx sy ms nx ny : List Int) (w : World) (h1 : GamR w Ja1 Ja2 Jan1 Jan2 Jm Jmn Jb1 Jb2 Jbn1 Jbn2 sx sy ms nx ny) (h2 : GamR w hha1 hha2 Jan1 Jan2 hhm Jmn hhb1 hhb2 Jbn1 Jbn2 sx sy ms nx ny) :
  Calls Tryz.prog 16 #[.agg #[.int .i64 Jp, .int .i64 Js, .bool Jst, .bool Jsk, .bool Jre, .bool Jfe, .bool Jag, .int .i64 Jc, .int .i64 Jl, .slice Ja1 Jan1 Jac1, .slice Ja2 Jan2 Jac2, .int .i64 Jap, .slice Jm Jmn Jmc, .slice Jb1 Jbn1 Jbc1, .slice Jb2 Jbn2 Jbc2, .int .i64 Jbp, .int .i64 Jrg], .agg #[.int .i64 Jp, .int .i64 Js, .bool Jst, .bool Jsk, .bool Jre, .bool Jfe, .bool Jag, .int .i64 Jc, .int .i64 Jl, .slice hha1 Jan1 hhac1, .slice hha2 Jan2 hhac2, .int .i64 Jap, .slice hhm Jmn hhmc, .slice hhb1 Jbn1 hhbc1, .slice hhb2 Jbn2 hhbc2, .int .i64 Jbp, .int .i64 Jrg]] w fun e w' => e = .returned (.bool true) ∧ Below w.heap.size w w' := by
 have HS := Lib.hid (tg2_new Jp Js Jc Jl Jst Jsk Jre Jfe Jag Ja1 Ja2 Jan1 Jac1 Jan2 Jac2 Jap Jm Jmn Jmc Jb1 Jb2 Jbn1 Jbc1 Jbn2 Jbc2 Jbp Jrg Jp Js Jc Jl Jst Jsk Jre Jfe Jag hha1 hha2 Jan1 hhac1 Jan2 hhac2 Jap hhm Jmn hhmc hhb1 hhb2 Jbn1 hhbc1 Jbn2 hhbc2 Jbp Jrg w 35)
 have H1 := Lib.hid h1
 have H2 := Lib.hid h2
 clear h1 h2
 go_enter Tryz.func16, Tryz.ntmps16
 go_wp2_with fail
 refine (eqRulesG_same Jp Js Jc Jl Jst Jsk Jre Jfe Jag _).mono ?_
 rintro e u1 ⟨rfl, hb⟩
 have HS := Lib.hid (HS.out.below hb)
 clear hb
 obtain ⟨⟨_, d0, d1, d2, d3, d4, d5, d6, d7, d8, d9, d10, d11, d12, d13, d14, d15, d16⟩, ⟨_, e0, e1, e2, e3, e4, e5, e6, e7, e8, e9, e10, e11, e12, e13, e14, e15, e16⟩, _⟩ := HS.out
 go_wp2_with fail
 refine (eqP_same Ja1 Ja2 hha1 hha2 Jan1 Jan2 Jac1 Jac2 hhac1 hhac2 Jap sx sy _ (H1.out.s.below HS.out.2.2) (H2.out.s.below HS.out.2.2)).mono ?_
 rintro e u2 ⟨rfl, hb⟩
 clear d0 e0 d1 e1 d2 e2 d3 e3 d4 e4 d5 e5 d6 e6 d7 e7 d8 e8 d9 e9 d10 e10 d11 e11 d12 e12 d13 e13 d14 e14 d15 e15 d16 e16
 have HS := Lib.hid (HS.out.below hb)
 clear hb
 obtain ⟨⟨_, d0, d1, d2, d3, d4, d5, d6, d7, d8, d9, d10, d11, d12, d13, d14, d15, d16⟩, ⟨_, e0, e1, e2, e3, e4, e5, e6, e7, e8, e9, e10, e11, e12, e13, e14, e15, e16⟩, _⟩ := HS.out
 go_wp2_with fail
 refine (eqN_same Jm hhm Jmc hhmc Jmn ms _ H1.out.lm (H1.out.m.below HS.out.2.2) (H2.out.m.below HS.out.2.2)).mono ?_
 rintro e u3 ⟨rfl, hb⟩
 clear d0 e0 d1 e1 d2 e2 d3 e3 d4 e4 d5 e5 d6 e6 d7 e7 d8 e8 d9 e9 d10 e10 d11 e11 d12 e12 d13 e13 d14 e14 d15 e15 d16 e16
 have HS := Lib.hid (HS.out.below hb)
 clear hb
 obtain ⟨⟨_, d0, d1, d2, d3, d4, d5, d6, d7, d8, d9, d10, d11, d12, d13, d14, d15, d16⟩, ⟨_, e0, e1, e2, e3, e4, e5, e6, e7, e8, e9, e10, e11, e12, e13, e14, e15, e16⟩, _⟩ := HS.out
 go_wp2_with fail
 refine (eqP_same Jb1 Jb2 hhb1 hhb2 Jbn1 Jbn2 Jbc1 Jbc2 hhbc1 hhbc2 Jbp nx ny _ (H1.out.n.below HS.out.2.2) (H2.out.n.below HS.out.2.2)).mono ?_
 rintro e u4 ⟨rfl, hb⟩
 clear d0 e0 d1 e1 d2 e2 d3 e3 d4 e4 d5 e5 d6 e6 d7 e7 d8 e8 d9 e9 d10 e10 d11 e11 d12 e12 d13 e13 d14 e14 d15 e15 d16 e16
 have HS := Lib.hid (HS.out.below hb)
 clear hb
 obtain ⟨⟨_, d0, d1, d2, d3, d4, d5, d6, d7, d8, d9, d10, d11, d12, d13, d14, d15, d16⟩, ⟨_, e0, e1, e2, e3, e4, e5, e6, e7, e8, e9, e10, e11, e12, e13, e14, e15, e16⟩, _⟩ := HS.out
 go_wp2_with fail
 go_ret
 exact ⟨rfl, HS.out.2.2⟩
def TgAt (u : World) (A : Nat) (p s c l : Int) (st sk re fe ag : Bool) (an1 an2 : Nat) (ap : Int) (mn bn1 bn2 : Nat) (bp rg : Int) (sx sy ms nx ny : List Int) : Prop :=
 ∃ g1 g2 g3 g4 g5 : Nat, GmAt u A p s c l st sk re fe ag (some ⟨g1, 0, none⟩) (some ⟨g2, 0, none⟩) an1 an1 an2 an2 ap (some ⟨g3, 0, none⟩) mn mn (some ⟨g4, 0, none⟩) (some ⟨g5, 0, none⟩) bn1 bn1 bn2 bn2 bp rg ∧ GamR u (some ⟨g1, 0, none⟩) (some ⟨g2, 0, none⟩) an1 an2 (some ⟨g3, 0, none⟩) mn (some ⟨g4, 0, none⟩) (some ⟨g5, 0, none⟩) bn1 bn2 sx sy ms nx ny
theorem TgAt.below {u v : World} {A : Nat} {p s c l : Int} {st sk re fe ag : Bool} {an1 an2 : Nat} {ap : Int} {mn bn1 bn2 : Nat} {bp rg : Int} {sx sy ms nx ny : List Int} (h : TgAt u A p s c l st sk re fe ag an1 an2 ap mn bn1 bn2 bp rg sx sy ms nx ny) (k : Below u.heap.size u v) : TgAt v A p s c l st sk re fe ag an1 an2 ap mn bn1 bn2 bp rg sx sy ms nx ny := by
 obtain ⟨g1, g2, g3, g4, g5, h1, h2⟩ := h
 exact ⟨g1, g2, g3, g4, g5, h1.below k, h2.below k⟩
theorem gm_of_rg {u : World} {b : Nat} {Jp Js Jc Jl : Int} {Jst Jsk Jre Jfe Jag : Bool} {Ja1 Ja2 : Option Addr} {Jan1 Jac1 Jan2 Jac2 : Nat} {Jap : Int} {Jm : Option Addr} {Jmn Jmc : Nat} {Jb1 Jb2 : Option Addr} {Jbn1 Jbc1 Jbn2 Jbc2 : Nat} {Jbp Jrg : Int} (hb : b < u.heap.size) (h : u.rangeAt b 0 [.int .i64 Jp, .int .i64 Js, .bool Jst, .bool Jsk, .bool Jre, .bool Jfe, .bool Jag, .int .i64 Jc, .int .i64 Jl, .slice Ja1 Jan1 Jac1, .slice Ja2 Jan2 Jac2, .int .i64 Jap, .slice Jm Jmn Jmc, .slice Jb1 Jbn1 Jbc1, .slice Jb2 Jbn2 Jbc2, .int .i64 Jbp, .int .i64 Jrg]) : GmAt u b Jp Js Jc Jl Jst Jsk Jre Jfe Jag Ja1 Ja2 Jan1 Jac1 Jan2 Jac2 Jap Jm Jmn Jmc Jb1 Jb2 Jbn1 Jbc1 Jbn2 Jbc2 Jbp Jrg :=
 ⟨hb, h 0 _ rfl, h 1 _ rfl, h 2 _ rfl, h 3 _ rfl, h 4 _ rfl, h 5 _ rfl, h 6 _ rfl, h 7 _ rfl, h 8 _ rfl, h 9 _ rfl, h 10 _ rfl, h 11 _ rfl, h 12 _ rfl, h 13 _ rfl, h 14 _ rfl, h 15 _ rfl, h 16 _ rfl⟩
theorem there17 (v : World) (T : TypeId) : (v.alloc (.cells #[.int .i64 0, .int .i64 0, .bool false, .bool false, .bool false, .bool false, .bool false, .int .i64 0, .int .i64 0, .slice none 0 0, .slice none 0 0, .int .i64 0, .slice none 0 0, .slice none 0 0, .slice none 0 0, .int .i64 0, .int .i64 0] T)).there v.heap.size 0 17 := (g17_new v T).there
theorem tg_stored {v : World} {B : Nat} {p s c l : Int} {st sk re fe ag : Bool} {g1 g2 g3 g4 g5 an1 an2 : Nat} {ap : Int} {mn bn1 bn2 : Nat} {bp rg : Int} {sx sy ms nx ny : List Int} (T : TypeId)
  (h : GamO v B (some ⟨g1, 0, none⟩) (some ⟨g2, 0, none⟩) g1 g2 an1 an2 (some ⟨g3, 0, none⟩) g3 mn (some ⟨g4, 0, none⟩) (some ⟨g5, 0, none⟩) g4 g5 bn1 bn2 sx sy ms nx ny) :
  TgAt ((v.alloc (.cells #[.int .i64 0, .int .i64 0, .bool false, .bool false, .bool false, .bool false, .bool false, .int .i64 0, .int .i64 0, .slice none 0 0, .slice none 0 0, .int .i64 0, .slice none 0 0, .slice none 0 0, .slice none 0 0, .int .i64 0, .int .i64 0] T)).setCells v.heap.size 0 [.int .i64 p, .int .i64 s, .bool st, .bool sk, .bool re, .bool fe, .bool ag, .int .i64 c, .int .i64 l, .slice (some ⟨g1, 0, none⟩) an1 an1, .slice (some ⟨g2, 0, none⟩) an2 an2, .int .i64 ap, .slice (some ⟨g3, 0, none⟩) mn mn, .slice (some ⟨g4, 0, none⟩) bn1 bn1, .slice (some ⟨g5, 0, none⟩) bn2 bn2, .int .i64 bp, .int .i64 rg]) v.heap.size p s c l st sk re fe ag an1 an2 ap mn bn1 bn2 bp rg sx sy ms nx ny :=
 ⟨g1, g2, g3, g4, g5, gm_of_rg (by rw [size_scg]; simp) (World.rangeAt_setCells_same _ _ 0 [.int .i64 p, .int .i64 s, .bool st, .bool sk, .bool re, .bool fe, .bool ag, .int .i64 c, .int .i64 l, .slice (some ⟨g1, 0, none⟩) an1 an1, .slice (some ⟨g2, 0, none⟩) an2 an2, .int .i64 ap, .slice (some ⟨g3, 0, none⟩) mn mn, .slice (some ⟨g4, 0, none⟩) bn1 bn1, .slice (some ⟨g5, 0, none⟩) bn2 bn2, .int .i64 bp, .int .i64 rg] (there17 v T)), h.r.below (below_scg v.heap.size (Nat.le_refl _) _ 0 (al1 v _))⟩
theorem below_stored (v : World) (T : TypeId) (vs : List Value) : Below v.heap.size v ((v.alloc (.cells #[.int .i64 0, .int .i64 0, .bool false, .bool false, .bool false, .bool false, .bool false, .int .i64 0, .int .i64 0, .slice none 0 0, .slice none 0 0, .int .i64 0, .slice none 0 0, .slice none 0 0, .slice none 0 0, .int .i64 0, .int .i64 0] T)).setCells v.heap.size 0 vs) := below_scg v.heap.size (Nat.le_refl _) _ 0 (al1 v _)
/- Game5 -/
structure GamD (w : World) (k1 k2 k3 k4 k5 : Nat) : Prop where
 l1 : k1 < w.heap.size
 l2 : k2 < w.heap.size
 l3 : k3 < w.heap.size
 l4 : k4 < w.heap.size
 l5 : k5 < w.heap.size
 n13 : k1 ≠ k3
 n23 : k2 ≠ k3
 n14 : k1 ≠ k4
 n24 : k2 ≠ k4
 n15 : k1 ≠ k5
 n25 : k2 ≠ k5
 n34 : k3 ≠ k4
 n35 : k3 ≠ k5
theorem GmAt.but2 {u v : World} {b c d : Nat} {Jp Js Jc Jl : Int} {Jst Jsk Jre Jfe Jag : Bool} {Ja1 Ja2 : Option Addr} {Jan1 Jac1 Jan2 Jac2 : Nat} {Jap : Int} {Jm : Option Addr} {Jmn Jmc : Nat} {Jb1 Jb2 : Option Addr} {Jbn1 Jbc1 Jbn2 Jbc2 : Nat} {Jbp Jrg : Int} (h : GmAt u b Jp Js Jc Jl Jst Jsk Jre Jfe Jag Ja1 Ja2 Jan1 Jac1 Jan2 Jac2 Jap Jm Jmn Jmc Jb1 Jb2 Jbn1 Jbc1 Jbn2 Jbc2 Jbp Jrg) (k : But2 c d u v) (hc : b ≠ c) (hd : b ≠ d) : GmAt v b Jp Js Jc Jl Jst Jsk Jre Jfe Jag Ja1 Ja2 Jan1 Jac1 Jan2 Jac2 Jap Jm Jmn Jmc Jb1 Jb2 Jbn1 Jbc1 Jbn2 Jbc2 Jbp Jrg := by
 obtain ⟨hb, h⟩ := h
 have e := fun o => k.cell (o := o) hb hc hd
 exact ⟨Nat.lt_of_lt_of_le hb k.size, by rw [e, e, e, e, e, e, e, e, e, e, e, e, e, e, e, e, e]; exact h⟩
structure But5 (k1 k2 k3 k4 k5 : Nat) (w w' : World) : Prop where
 os : w'.os = w.os
 tape : w'.tape = w.tape
 output : w'.output = w.output
 size : w.heap.size ≤ w'.heap.size
 block : ∀ k, k < w.heap.size → k ≠ k1 → k ≠ k2 → k ≠ k3 → k ≠ k4 → k ≠ k5 → w'.heap[k]? = w.heap[k]?
section
variable {k1 k2 k3 k4 k5 : Nat} {w u v : World}
theorem But5.of_below (h : Below w.heap.size w u) : But5 k1 k2 k3 k4 k5 w u := ⟨h.os, h.tape, h.output, h.size, fun k hk _ _ _ _ _ => h.block k hk⟩
theorem But5.of12 (h : But2 k1 k2 w u) : But5 k1 k2 k3 k4 k5 w u := ⟨h.os, h.tape, h.output, h.size, fun k hk a b _ _ _ => h.block k hk a b⟩
theorem But5.of3 (h : But k3 w u) : But5 k1 k2 k3 k4 k5 w u := ⟨h.os, h.tape, h.output, h.size, fun k hk _ _ a _ _ => h.block k hk a⟩
theorem But5.of45 (h : But2 k4 k5 w u) : But5 k1 k2 k3 k4 k5 w u := ⟨h.os, h.tape, h.output, h.size, fun k hk _ _ _ a b => h.block k hk a b⟩
theorem But5.trans (h : But5 k1 k2 k3 k4 k5 w u) (k : But5 k1 k2 k3 k4 k5 u v) : But5 k1 k2 k3 k4 k5 w v :=
 ⟨k.os.trans h.os, k.tape.trans h.tape, k.output.trans h.output, Nat.le_trans h.size k.size, fun i hi a b c d e => (k.block i (Nat.lt_of_lt_of_le hi h.size) a b c d e).trans (h.block i hi a b c d e)⟩
theorem But5.below {B : Nat} (h : But5 k1 k2 k3 k4 k5 w u) (hB : B ≤ w.heap.size) (a1 : B ≤ k1) (a2 : B ≤ k2) (a3 : B ≤ k3) (a4 : B ≤ k4) (a5 : B ≤ k5) : Below B w u :=
 ⟨h.os, h.tape, h.output, h.size, fun i hi => h.block i (by omega) (by omega) (by omega) (by omega) (by omega) (by omega)⟩
theorem But5.cell (h : But5 k1 k2 k3 k4 k5 w u) {c o : Nat} (hc : c < w.heap.size) (a1 : c ≠ k1) (a2 : c ≠ k2) (a3 : c ≠ k3) (a4 : c ≠ k4) (a5 : c ≠ k5) : u.cell? ⟨c, o, none⟩ = w.cell? ⟨c, o, none⟩ := World.cell?_of_block (w := w) (h.block c hc a1 a2 a3 a4 a5)
theorem GmAt.but5 {b : Nat} {Jp Js Jc Jl : Int} {Jst Jsk Jre Jfe Jag : Bool} {Ja1 Ja2 : Option Addr} {Jan1 Jac1 Jan2 Jac2 : Nat} {Jap : Int} {Jm : Option Addr} {Jmn Jmc : Nat} {Jb1 Jb2 : Option Addr} {Jbn1 Jbc1 Jbn2 Jbc2 : Nat} {Jbp Jrg : Int} (h : GmAt u b Jp Js Jc Jl Jst Jsk Jre Jfe Jag Ja1 Ja2 Jan1 Jac1 Jan2 Jac2 Jap Jm Jmn Jmc Jb1 Jb2 Jbn1 Jbc1 Jbn2 Jbc2 Jbp Jrg) (k : But5 k1 k2 k3 k4 k5 u v) (a1 : b ≠ k1) (a2 : b ≠ k2) (a3 : b ≠ k3) (a4 : b ≠ k4) (a5 : b ≠ k5) : GmAt v b Jp Js Jc Jl Jst Jsk Jre Jfe Jag Ja1 Ja2 Jan1 Jac1 Jan2 Jac2 Jap Jm Jmn Jmc Jb1 Jb2 Jbn1 Jbc1 Jbn2 Jbc2 Jbp Jrg := by
 obtain ⟨hb, h⟩ := h
 have e := fun o => k.cell (o := o) hb a1 a2 a3 a4 a5
 exact ⟨Nat.lt_of_lt_of_le hb k.size, by rw [e, e, e, e, e, e, e, e, e, e, e, e, e, e, e, e, e]; exact h⟩
end
theorem markPw_any (B b1 b2 : Nat) (a1 a2 : Option Addr) (n1 n2 c1 c2 k : Nat) (pl : Int) (xs ys : List Int) (w : World) (h : PosO w B a1 a2 b1 b2 n1 n2 xs ys) (hB : B ≤ w.heap.size) (hlt : b1 < w.heap.size ∧ b2 < w.heap.size) (hk2 : k ≤ 10000000) (hn : n1 ≤ 10000000) :
  Calls Tryz.prog 28 #[.agg #[.slice a1 n1 c1, .slice a2 n2 c2, .int .i64 pl], .int .i64 k] w (MarkPP B b1 b2 a1 a2 n1 n2 k w) := by
 have H := Lib.hid h
 obtain ⟨hl1, hl2⟩ := hlt
 clear h
 go_enter Tryz.func28, Tryz.ntmps28
 go_wp2_with fail
 refine (marksN_any B b1 a1 c1 n1 k xs _ H.out.l1 (H.out.o1.alloc _) (by omega)).mono ?_
 rintro e u ⟨rfl, b1', o1⟩
 have hs1 := b1'.size
 simp at hs1
 have x1 := fun o => b1'.cell (c := w.heap.size) (o := o) (by simp) (by omega)
 have O2 := Lib.hid ((H.out.o2.alloc _).but b1' (by have := H.out.ne; omega))
 have O1 := Lib.hid o1
 have B1 := Lib.hid b1'
 clear o1 b1'
 go_wp2_with fail
 refine (marksN_any B b2 a2 c2 n2 (k + n1) ys _ H.out.l2 O2.out (by omega)).mono ?_
 rintro e u2 ⟨rfl, b2', o2⟩
 have O1' := Lib.hid (O1.out.but b2' H.out.ne)
 have O2' := Lib.hid o2
 have B2 := Lib.hid b2'
 clear b2' o2
 go_wp2_with fail
 go_ret
 exact ⟨rfl, ((But2.of_below ((Below.refl _ _).alloc (Nat.le_refl _) _)).trans (.of_l B1.out)).trans (.of_r B2.out), O1'.out, O2'.out, H.out.ne, marksN_len _ _, marksN_len _ _⟩
theorem markG_any (B k1 k2 k3 k4 k5 k : Nat) (Jp Js Jc Jl : Int) (Jst Jsk Jre Jfe Jag : Bool) (Ja1 Ja2 : Option Addr) (Jan1 Jac1 Jan2 Jac2 : Nat) (Jap : Int) (Jm : Option Addr) (Jmn Jmc : Nat) (Jb1 Jb2 : Option Addr) (Jbn1 Jbc1 Jbn2 Jbc2 : Nat) (Jbp Jrg : Int) (sx sy ms nx ny : List Int) (w : World) (h : GamO w B Ja1 Ja2 k1 k2 Jan1 Jan2 Jm k3 Jmn Jb1 Jb2 k4 k5 Jbn1 Jbn2 sx sy ms nx ny) (hd : GamD w k1 k2 k3 k4 k5) (hB : B ≤ w.heap.size) (hk : k ≤ 1000) (ht : Jan1 + Jan2 + Jmn + Jbn1 + Jbn2 ≤ 9000000) :
  Calls Tryz.prog 22 #[.agg #[.int .i64 Jp, .int .i64 Js, .bool Jst, .bool Jsk, .bool Jre, .bool Jfe, .bool Jag, .int .i64 Jc, .int .i64 Jl, .slice Ja1 Jan1 Jac1, .slice Ja2 Jan2 Jac2, .int .i64 Jap, .slice Jm Jmn Jmc, .slice Jb1 Jbn1 Jbc1, .slice Jb2 Jbn2 Jbc2, .int .i64 Jbp, .int .i64 Jrg], .int .i64 k] w fun e w' => e = .returned (.int .i64 ((k + Jan1 + Jan2 + Jmn + Jbn1 + Jbn2 : Nat) : Int)) ∧ But5 k1 k2 k3 k4 k5 w w' ∧ GamO w' B Ja1 Ja2 k1 k2 Jan1 Jan2 Jm k3 Jmn Jb1 Jb2 k4 k5 Jbn1 Jbn2 (marksN k Jan1) (marksN (k + Jan1) Jan2) (marksN (k + Jan1 + Jan2) Jmn) (marksN (k + Jan1 + Jan2 + Jmn) Jbn1) (marksN (k + Jan1 + Jan2 + Jmn + Jbn1) Jbn2) := by
 have H := Lib.hid h
 have HD := Lib.hid hd
 clear h hd
 go_enter Tryz.func22, Tryz.ntmps22
 go_wp2_with fail
 have b0 := al1 w (.cells #[.int .i64 Jp, .int .i64 Js, .bool Jst, .bool Jsk, .bool Jre, .bool Jfe, .bool Jag, .int .i64 Jc, .int .i64 Jl, .slice Ja1 Jan1 Jac1, .slice Ja2 Jan2 Jac2, .int .i64 Jap, .slice Jm Jmn Jmc, .slice Jb1 Jbn1 Jbc1, .slice Jb2 Jbn2 Jbc2, .int .i64 Jbp, .int .i64 Jrg] 35)
 have s0 := b0.size
 refine (markPw_any B k1 k2 Ja1 Ja2 Jan1 Jan2 Jac1 Jac2 k Jap sx sy _ (H.out.s.below b0) (Nat.le_trans hB s0) ⟨Nat.lt_of_lt_of_le HD.out.l1 s0, Nat.lt_of_lt_of_le HD.out.l2 s0⟩ (by omega) (by omega)).mono ?_
 rintro e u1 ⟨rfl, b1, o1⟩
 have A1 := Lib.hid ((gm_new Jp Js Jc Jl Jst Jsk Jre Jfe Jag Ja1 Ja2 Jan1 Jac1 Jan2 Jac2 Jap Jm Jmn Jmc Jb1 Jb2 Jbn1 Jbc1 Jbn2 Jbc2 Jbp Jrg w 35).but2 b1 (by have := HD.out.l1; omega) (by have := HD.out.l2; omega))
 have O1 := Lib.hid o1
 have M1 := Lib.hid ((H.out.m.below b0).but2 b1 (by have := HD.out.n13; omega) (by have := HD.out.n23; omega))
 have N1 := Lib.hid ((H.out.n.below b0).but2 b1 (by have := HD.out.n14; omega) (by have := HD.out.n15; omega) (by have := HD.out.n24; omega) (by have := HD.out.n25; omega))
 have B1 : Hid (But5 k1 k2 k3 k4 k5 w u1) := Lib.hid ((But5.of_below b0).trans (But5.of12 b1))
 have L1 := Lib.hid (Nat.le_trans s0 b1.size)
 clear b1 o1 b0 s0
 obtain ⟨_, d0, d1, d2, d3, d4, d5, d6, d7, d8, d9, d10, d11, d12, d13, d14, d15, d16⟩ := A1.out
 go_wp2_with fail
 refine (marksN_any B k3 Jm Jmc Jmn (k + Jan1 + Jan2) ms _ H.out.lm M1.out (by omega)).mono ?_
 rintro e u2 ⟨rfl, b2, o2⟩
 clear d0 d1 d2 d3 d4 d5 d6 d7 d8 d9 d10 d11 d12 d13 d14 d15 d16
 have A2 := Lib.hid (A1.out.but b2 (by have := HD.out.l3; omega))
 have O2 := Lib.hid (O1.out.but b2 (by have := HD.out.n13; omega) (by have := HD.out.n23; omega))
 have M2 := Lib.hid o2
 have N2 := Lib.hid (N1.out.but b2 (by have := HD.out.n34; omega) (by have := HD.out.n35; omega))
 have B2 : Hid (But5 k1 k2 k3 k4 k5 w u2) := Lib.hid (B1.out.trans (But5.of3 b2))
 have L2 := Lib.hid (Nat.le_trans L1.out b2.size)
 clear b2 o2 A1 O1 M1 N1 B1
 obtain ⟨_, d0, d1, d2, d3, d4, d5, d6, d7, d8, d9, d10, d11, d12, d13, d14, d15, d16⟩ := A2.out
 go_wp2_with fail
 refine (markPw_any B k4 k5 Jb1 Jb2 Jbn1 Jbn2 Jbc1 Jbc2 (k + Jan1 + Jan2 + Jmn) Jbp nx ny _ N2.out (Nat.le_trans hB L2.out) ⟨Nat.lt_of_lt_of_le HD.out.l4 L2.out, Nat.lt_of_lt_of_le HD.out.l5 L2.out⟩ (by omega) (by omega)).mono ?_
 rintro e u3 ⟨rfl, b3, o3⟩
 clear d0 d1 d2 d3 d4 d5 d6 d7 d8 d9 d10 d11 d12 d13 d14 d15 d16
 have O3 := Lib.hid (O2.out.but2 b3 (by have := HD.out.n14; omega) (by have := HD.out.n24; omega) (by have := HD.out.n15; omega) (by have := HD.out.n25; omega))
 have M3 := Lib.hid (M2.out.but2 b3 (by have := HD.out.n34; omega) (by have := HD.out.n35; omega))
 have N3 := Lib.hid o3
 have B3 : Hid (But5 k1 k2 k3 k4 k5 w u3) := Lib.hid (B2.out.trans (But5.of45 b3))
 clear b3 o3
 go_wp2_with fail
 go_ret
 exact ⟨rfl, B3.out, O3.out, M3.out, marksN_len _ _, N3.out⟩
/- Game6 -/
theorem RuAt.range9 {u : World} {b : Nat} {p s c l : Int} {st sk re fe ag : Bool} (h : RuAt u b p s c l st sk re fe ag) : u.rangeAt b 0 [.int .i64 p, .int .i64 s, .bool st, .bool sk, .bool re, .bool fe, .bool ag, .int .i64 c, .int .i64 l] := by
 obtain ⟨_, m0, m1, m2, m3, m4, m5, m6, m7, m8⟩ := h
 intro j x hj
 match j, hj with
 | 0, hj => cases hj; exact m0
 | 1, hj => cases hj; exact m1
 | 2, hj => cases hj; exact m2
 | 3, hj => cases hj; exact m3
 | 4, hj => cases hj; exact m4
 | 5, hj => cases hj; exact m5
 | 6, hj => cases hj; exact m6
 | 7, hj => cases hj; exact m7
 | 8, hj => cases hj; exact m8
 | n + 9, hj => simp at hj
theorem PoAt.range3 {u : World} {b : Nat} {q1 q2 : Option Addr} {qn1 qc1 qn2 qc2 : Nat} {qp : Int} (h : PoAt u b q1 q2 qn1 qc1 qn2 qc2 qp) : u.rangeAt b 0 [.slice q1 qn1 qc1, .slice q2 qn2 qc2, .int .i64 qp] := by
 obtain ⟨_, m0, m1, m2⟩ := h
 intro j x hj
 match j, hj with
 | 0, hj => cases hj; exact m0
 | 1, hj => cases hj; exact m1
 | 2, hj => cases hj; exact m2
 | n + 3, hj => simp at hj
structure NewR (w w' : World) (g1 g2 g4 g5 qn1 qn2 : Nat) (xs ys : List Int) : Prop where
 s : PosO w' w.heap.size (some ⟨g1, 0, none⟩) (some ⟨g2, 0, none⟩) g1 g2 qn1 qn2 xs ys
 n : PosO w' w.heap.size (some ⟨g4, 0, none⟩) (some ⟨g5, 0, none⟩) g4 g5 qn1 qn2 xs ys
 l1 : g1 < w'.heap.size
 l2 : g2 < w'.heap.size
 l4 : g4 < w'.heap.size
 l5 : g5 < w'.heap.size
 n14 : g1 ≠ g4
 n15 : g1 ≠ g5
 n24 : g2 ≠ g4
 n25 : g2 ≠ g5
 be : Below w.heap.size w w'
theorem NewR.sc {w u : World} {g1 g2 g4 g5 qn1 qn2 : Nat} {xs ys : List Int} (z : Nat) (vs : List Value) (o : Nat) (h : NewR w u g1 g2 g4 g5 qn1 qn2 xs ys) (hz : w.heap.size ≤ z) (m1 : g1 ≠ z) (m2 : g2 ≠ z) (m4 : g4 ≠ z) (m5 : g5 ≠ z) : NewR w (u.setCells z o vs) g1 g2 g4 g5 qn1 qn2 xs ys := by
 have k := but_scg (a := u) z vs o (But.refl z u)
 have e := size_scg z vs o u
 exact ⟨h.s.but k m1 m2, h.n.but k m4 m5, e ▸ h.l1, e ▸ h.l2, e ▸ h.l4, e ▸ h.l5, h.n14, h.n15, h.n24, h.n25, below_scg z hz vs o h.be⟩
theorem there_of {u v : World} {z n : Nat} (h : u.there z 0 n) (hz : z < u.heap.size) (k : Below u.heap.size u v) : v.there z 0 n := fun j hj => by
 obtain ⟨h1, h2⟩ := h j hj
 exact ⟨by rw [k.cell (p := ⟨z, 0 + j, none⟩) hz]; exact h1, (k.frozen (p := ⟨z, 0 + j, none⟩) hz).trans h2⟩
/- Off8 -/
def Po9 (u : World) (d : Nat) (p1 p2 : Option Addr) (pn1 pc1 pn2 pc2 : Nat) (pp : Int) : Prop := d < u.heap.size ∧ u.cell? ⟨d, 9, none⟩ = some (.slice p1 pn1 pc1) ∧ u.cell? ⟨d, 10, none⟩ = some (.slice p2 pn2 pc2) ∧ u.cell? ⟨d, 11, none⟩ = some (.int .i64 pp)
def PoO (u : World) (d o : Nat) (p1 p2 : Option Addr) (pn1 pc1 pn2 pc2 : Nat) (pp : Int) : Prop := d < u.heap.size ∧ u.cell? ⟨d, o, none⟩ = some (.slice p1 pn1 pc1) ∧ u.cell? ⟨d, o + 1, none⟩ = some (.slice p2 pn2 pc2) ∧ u.cell? ⟨d, o + 2, none⟩ = some (.int .i64 pp)
section
variable {u v : World} {d o : Nat} {p1 p2 : Option Addr} {pn1 pc1 pn2 pc2 : Nat} {pp : Int}
theorem Po9.below (h : Po9 u d p1 p2 pn1 pc1 pn2 pc2 pp) (k : Below u.heap.size u v) : Po9 v d p1 p2 pn1 pc1 pn2 pc2 pp := by
 obtain ⟨hb, h⟩ := h
 have e := fun o => k.cell (p := ⟨d, o, none⟩) hb
 exact ⟨Nat.lt_of_lt_of_le hb k.size, by rw [e, e, e]; exact h⟩
theorem Po9.but {g : Nat} (h : Po9 u d p1 p2 pn1 pc1 pn2 pc2 pp) (k : But g u v) (hg : d ≠ g) : Po9 v d p1 p2 pn1 pc1 pn2 pc2 pp := by
 obtain ⟨hb, h⟩ := h
 have e := fun o => k.cell (o := o) hb hg
 exact ⟨Nat.lt_of_lt_of_le hb k.size, by rw [e, e, e]; exact h⟩
theorem PoO.below (h : PoO u d o p1 p2 pn1 pc1 pn2 pc2 pp) (k : Below u.heap.size u v) : PoO v d o p1 p2 pn1 pc1 pn2 pc2 pp := by
 obtain ⟨hb, h⟩ := h
 have e := fun o => k.cell (p := ⟨d, o, none⟩) hb
 exact ⟨Nat.lt_of_lt_of_le hb k.size, by rw [e, e, e]; exact h⟩
theorem Po9.drew (h : Po9 u d p1 p2 pn1 pc1 pn2 pc2 pp) : Po9 u.drew d p1 p2 pn1 pc1 pn2 pc2 pp := h
theorem Po9.set3 {z : Nat} (h : Po9 u d p1 p2 pn1 pc1 pn2 pc2 pp) (hz : d ≠ z) (x y t : Value) : Po9 (((u.setCell ⟨z, 0, none⟩ x).setCell ⟨z, 1, none⟩ y).setCell ⟨z, 2, none⟩ t) d p1 p2 pn1 pc1 pn2 pc2 pp :=
 h.but ((((But.refl z u).setCell (p := ⟨z, 0, none⟩) rfl x).setCell (p := ⟨z, 1, none⟩) rfl y).setCell (p := ⟨z, 2, none⟩) rfl t) hz
theorem GmAt.p9 {u : World} {b : Nat} {Jp Js Jc Jl : Int} {Jst Jsk Jre Jfe Jag : Bool} {Ja1 Ja2 : Option Addr} {Jan1 Jac1 Jan2 Jac2 : Nat} {Jap : Int} {Jm : Option Addr} {Jmn Jmc : Nat} {Jb1 Jb2 : Option Addr} {Jbn1 Jbc1 Jbn2 Jbc2 : Nat} {Jbp Jrg : Int} (h : GmAt u b Jp Js Jc Jl Jst Jsk Jre Jfe Jag Ja1 Ja2 Jan1 Jac1 Jan2 Jac2 Jap Jm Jmn Jmc Jb1 Jb2 Jbn1 Jbc1 Jbn2 Jbc2 Jbp Jrg) : Po9 u b Ja1 Ja2 Jan1 Jac1 Jan2 Jac2 Jap := h.s9
theorem GmAt.ru {u : World} {b : Nat} {Jp Js Jc Jl : Int} {Jst Jsk Jre Jfe Jag : Bool} {Ja1 Ja2 : Option Addr} {Jan1 Jac1 Jan2 Jac2 : Nat} {Jap : Int} {Jm : Option Addr} {Jmn Jmc : Nat} {Jb1 Jb2 : Option Addr} {Jbn1 Jbc1 Jbn2 Jbc2 : Nat} {Jbp Jrg : Int} (h : GmAt u b Jp Js Jc Jl Jst Jsk Jre Jfe Jag Ja1 Ja2 Jan1 Jac1 Jan2 Jac2 Jap Jm Jmn Jmc Jb1 Jb2 Jbn1 Jbc1 Jbn2 Jbc2 Jbp Jrg) : RuAt u b Jp Js Jc Jl Jst Jsk Jre Jfe Jag := by
 obtain ⟨h0, m0, m1, m2, m3, m4, m5, m6, m7, m8, -⟩ := h
 exact ⟨h0, m0, m1, m2, m3, m4, m5, m6, m7, m8⟩
end
theorem l04Own9_any (p1 p2 : Option Addr) (pn1 pc1 pn2 pc2 : Nat) (pp : Int) (xs ys : List Int) (d : Nat) (w : World) (hp : Po9 w d p1 p2 pn1 pc1 pn2 pc2 pp) (h : PosR w p1 p2 pn1 pn2 xs ys) (hne1 : xs ≠ []) (hne2 : ys ≠ []) :
  Calls Tryz.prog 71 #[.pointer (some ⟨d, 9, none⟩)] w (PosQ pn1 pn2 pp xs ys w) := by
 have H := Lib.hid h
 have HN1 := Lib.hid hne1
 have HN2 := Lib.hid hne2
 have hle1 : pn1 ≤ 1000000000000 := by have := h.r1.1; rwa [h.l1] at this
 have hle2 : pn2 ≤ 1000000000000 := by have := h.r2.1; rwa [h.l2] at this
 have HP := Lib.hid (hp.below (al1 _ (.cells #[.slice none 0 0, .slice none 0 0, .int .i64 0] 33)));have HB := Lib.hid (show OnW w _ from al1 w (.cells #[.slice none 0 0, .slice none 0 0, .int .i64 0] 33));have HZ := Lib.hid (zero_new w 33);have hdz : d ≠ w.heap.size := (by have := hp.1; omega)
 have HT : Hid (∀ u : World, Po9 u (d) p1 p2 pn1 pc1 pn2 pc2 pp → OnW w u → (d < u.heap.size ∧ u.cell? ⟨d, 9, none⟩ = some (.slice p1 pn1 pc1) ∧ u.cell? ⟨d, 10, none⟩ = some (.slice p2 pn2 pc2) ∧ u.cell? ⟨d, 11, none⟩ = some (.int .i64 pp)) ∧ Below w.heap.size w u) := Lib.hid (fun u h k => ⟨h, k⟩)
 clear h hne1 hne2
 go_enter Tryz.func71, Tryz.ntmps71
 go_wp2_with fail
 go_region_held3 (fun u => (d < u.heap.size ∧ u.cell? ⟨d, 9, none⟩ = some (.slice p1 pn1 pc1) ∧ u.cell? ⟨d, 10, none⟩ = some (.slice p2 pn2 pc2) ∧ u.cell? ⟨d, 11, none⟩ = some (.int .i64 pp)) ∧ Below w.heap.size w u) (first | exact HT.out _ HP.out HB.out | exact HT.out _ HP.out.drew HB.out.drew | exact HT.out _ (HP.out.set3 hdz _ _ _) (HB.out.set3 (by omega) _ _ _))
  (first
  | (go_at_call 69; (with_reducible refine (l00Own_any p1 pc1 pn1 xs _ H.out.l1 ?_ HN1.out).mono ?_); (first | exact H.out.r1.below HB.out | exact H.out.r1.below HB.out.drew); rintro e w5 ⟨v1, rfl, hown, hb5⟩; (obtain ⟨c5, b5, rfl, o5, hlt5, hc5⟩ := outN_own hown H.out.l1 hle1 HN1.out); have O1 := Lib.hid o5; have nb1 := o5.new; have nz1 := HZ.out.lt; (first | have HP := Lib.hid (HP.out.below hb5) | have HP := Lib.hid (HP.out.drew.below hb5) | have HP := Lib.hid ((HP.out.below (al1 _ _)).below hb5) | have HP := Lib.hid ((HP.out.below (al1 _ _)).drew.below hb5)); (first | have HB := Lib.hid (HB.out.below hb5) | have HB := Lib.hid (HB.out.drew.below hb5) | have HB := Lib.hid ((HB.out.below (al1 _ _)).below hb5) | have HB := Lib.hid ((HB.out.below (al1 _ _)).drew.below hb5)); (first | have HZ := Lib.hid (HZ.out.below hb5) | have HZ := Lib.hid (HZ.out.drew.below hb5) | have HZ := Lib.hid ((HZ.out.below (al1 _ _)).below hb5) | have HZ := Lib.hid ((HZ.out.below (al1 _ _)).drew.below hb5)); clear hown hb5 o5)
  | (go_at_call 69; (with_reducible refine (l00Own_any p2 pc2 pn2 ys _ H.out.l2 ?_ HN2.out).mono ?_); (first | exact H.out.r2.below HB.out | exact H.out.r2.below HB.out.drew); rintro e w6 ⟨v2, rfl, hown, hb6⟩; (obtain ⟨c6, b6, rfl, o6, hlt6, hc6⟩ := outN_own hown H.out.l2 hle2 HN2.out); have O2 := Lib.hid o6; have nb2 := o6.new; have nz2 := HZ.out.lt; (first | have HP := Lib.hid (HP.out.below hb6) | have HP := Lib.hid (HP.out.drew.below hb6) | have HP := Lib.hid ((HP.out.below (al1 _ _)).below hb6) | have HP := Lib.hid ((HP.out.below (al1 _ _)).drew.below hb6)); (first | have HB := Lib.hid (HB.out.below hb6) | have HB := Lib.hid (HB.out.drew.below hb6) | have HB := Lib.hid ((HB.out.below (al1 _ _)).below hb6) | have HB := Lib.hid ((HB.out.below (al1 _ _)).drew.below hb6)); (first | have HZ := Lib.hid (HZ.out.below hb6) | have HZ := Lib.hid (HZ.out.drew.below hb6) | have HZ := Lib.hid ((HZ.out.below (al1 _ _)).below hb6) | have HZ := Lib.hid ((HZ.out.below (al1 _ _)).drew.below hb6)); (first | have O1 := Lib.hid (O1.out.below hb6) | have O1 := Lib.hid (O1.out.drew.below hb6) | have O1 := Lib.hid ((O1.out.below (al1 _ _)).below hb6) | have O1 := Lib.hid ((O1.out.below (al1 _ _)).drew.below hb6)); (obtain ⟨zl, z0, z1, z2, zf⟩ := HZ.out); have f0 := zf 0; have f1 := zf 1; have f2 := zf 2; clear hown hb6 o6 zf))
 have nb3 : (w.heap.size) + 1 ≤ b5 := by
  have hh := nb1
  simp at hh
  omega
 have m5 : b5 ≠ w.heap.size := by omega
 have m6 : b6 ≠ w.heap.size := by omega
 have hs5 := HB.out.size
 go_wp2_with fail
 refine bodyPost_ret (v := .agg #[.slice (some ⟨b5, 0, none⟩) pn1 c5, .slice (some ⟨b6, 0, none⟩) pn2 c6, .int .i64 pp]) (by simp [results, Tryz.results71, go_sem, z0, z1, z2]) rfl ⟨b5, c5, b6, c6, rfl, ⟨(((O1.out.setCell m5 _).setCell m5 _).setCell m5 _).lower (by first | (simp; done) | (simp; omega)), (((O2.out.setCell m6 _).setCell m6 _).setCell m6 _).lower (by first | omega | (simp; omega)), by omega, H.out.l1, H.out.l2⟩, by simp; omega, by simp; omega, hc5, hc6, HB.out.set3 (by omega) _ _ _⟩
theorem l04Ok9_any (p s c l : Int) (st sk re fe ag : Bool) (p1 p2 : Option Addr) (pn1 pc1 pn2 pc2 : Nat) (pp : Int) (xs ys : List Int) (b d : Nat) (w : World) (c0 : w.cell? ⟨b, 0, none⟩ = some (.int .i64 p)) (c1 : w.cell? ⟨b, 1, none⟩ = some (.int .i64 s)) (c2 : w.cell? ⟨b, 2, none⟩ = some (.bool st)) (c3 : w.cell? ⟨b, 3, none⟩ = some (.bool sk)) (c4 : w.cell? ⟨b, 4, none⟩ = some (.bool re)) (c5 : w.cell? ⟨b, 5, none⟩ = some (.bool fe)) (c6 : w.cell? ⟨b, 6, none⟩ = some (.bool ag)) (c7 : w.cell? ⟨b, 7, none⟩ = some (.int .i64 c)) (c8 : w.cell? ⟨b, 8, none⟩ = some (.int .i64 l)) (d0 : w.cell? ⟨d, 9, none⟩ = some (.slice p1 pn1 pc1)) (d1 : w.cell? ⟨d, 10, none⟩ = some (.slice p2 pn2 pc2)) (d2 : w.cell? ⟨d, 11, none⟩ = some (.int .i64 pp))
  (h : PosR w p1 p2 pn1 pn2 xs ys) :
  Calls Tryz.prog 90 #[.pointer (some ⟨b, 0, none⟩), .pointer (some ⟨d, 9, none⟩)] w (Still (.bool (okP (okR p s c l st ag) p pn1 pn2 pp xs ys)) w) := by
 have hb1 : pn1 ≤ 1000000000000 := by rw [← h.l1]; exact h.r1.1
 have hb2 : pn2 ≤ 1000000000000 := by rw [← h.l2]; exact h.r2.1
 have H := Lib.hid h
 clear h
 rcases hok : okR p s c l st ag with _ | _
 ·rw [okP_1 rfl]
  have Hok := Lib.hid hok
  clear hok
  go_enter Tryz.func90, Tryz.ntmps90
  go_wp2_with fail
  go_quiet ((go_at_call 86; exact quiet_w (l02Ok_b p s c l st sk re fe ag _ Hok.out b _ c0 c1 c2 c3 c4 c5 c6 c7 c8) ⟨_, rfl⟩))
  go_wp2_with fail
  go_ret
  exact ⟨rfl, _, rfl⟩
 ·have hbd := okR_bd hok
  obtain ⟨hp1, hp2, -⟩ := hbd
  have Hok := Lib.hid hok
  clear hok
  by_cases h2 : (pn1 : Int) = 2 * p
  ·have hd1 : ((pn1 : Int) != 2 * p) = false := by simpa using h2
   have H2 := Lib.hid h2
   clear h2
   by_cases h3 : pn2 = 2
   ·have hd2 : ((pn2 : Int) != 2) = false := by simp [h3]
    have H3 := Lib.hid h3
    clear h3
    rcases h4 : (decide (0 ≤ pp) && decide (pp ≤ 1)) with _ | _
    ·rw [okP_4 h4]
     have H4 := Lib.hid h4
     clear h4
     go_enter Tryz.func90, Tryz.ntmps90
     go_wp2_with fail
     go_quiet ((first | (go_at_call 86; exact quiet_w (l02Ok_b p s c l st sk re fe ag _ Hok.out b _ c0 c1 c2 c3 c4 c5 c6 c7 c8) ⟨_, rfl⟩) | (go_at_call 74; exact quiet_w (in_b pp 0 1 _ H4.out _) ⟨_, rfl⟩)))
     go_wp2_with fail
     go_ret
     exact ⟨rfl, _, rfl⟩
    ·rw [okP_5 rfl H2.out H3.out h4, ← seedB_eq]
     have H4 := Lib.hid h4
     obtain ⟨b1, b2⟩ := sumC_bd xs
     obtain ⟨b3, b4⟩ := sumC_bd ys
     clear h4
     go_enter Tryz.func90, Tryz.ntmps90
     go_wp2_with fail
     go_quiet ((first | (go_at_call 86; exact quiet_w (l02Ok_b p s c l st sk re fe ag _ Hok.out b _ c0 c1 c2 c3 c4 c5 c6 c7 c8) ⟨_, rfl⟩) | (go_at_call 74; exact quiet_w (in_b pp 0 1 _ H4.out _) ⟨_, rfl⟩)))
     go_wp2_with fail
     refine (l04Sum_any p1 pc1 pn1 xs _ H.out.l1 (H.out.r1.drewN _)).mono ?_
     rintro e w' ⟨rfl, rfl⟩
     go_wp2_with fail
     refine (l04Sum_any p2 pc2 pn2 ys _ H.out.l2 (H.out.r2.drewN _)).mono ?_
     rintro e w' ⟨rfl, rfl⟩
     generalize sumC xs = s1 at *
     generalize sumC ys = s2 at *
     go_wp2_with fail
     all_goals
      go_ret
      exact ⟨by simp [*]; try omega, _, rfl⟩
   ·rw [okP_3 h3]
    have hd2 : ((pn2 : Int) != 2) = true := by simp; omega
    clear h3
    go_enter Tryz.func90, Tryz.ntmps90
    go_wp2_with fail
    go_quiet ((go_at_call 86; exact quiet_w (l02Ok_b p s c l st sk re fe ag _ Hok.out b _ c0 c1 c2 c3 c4 c5 c6 c7 c8) ⟨_, rfl⟩))
    go_wp2_with fail
    go_ret
    exact ⟨rfl, _, rfl⟩
  ·rw [okP_2 h2]
   have hd : ((pn1 : Int) != 2 * p) = true := by simpa using h2
   have hd2 : ((pn1 : Int) == 2 * p) = false := by simpa using h2
   clear h2
   go_enter Tryz.func90, Tryz.ntmps90
   go_wp2_with fail
   go_quiet ((go_at_call 86; exact quiet_w (l02Ok_b p s c l st sk re fe ag _ Hok.out b _ c0 c1 c2 c3 c4 c5 c6 c7 c8) ⟨_, rfl⟩))
   go_wp2_with fail
   go_ret
   exact ⟨rfl, _, rfl⟩
theorem l04SameO_any (p1 p2 : Option Addr) (pn1 pc1 pn2 pc2 : Nat) (pp : Int) (x1 x2 : Option Addr) (xn1 xc1 xn2 xc2 : Nat) (xp : Int) (xs ys us vs : List Int) (b o d : Nat) (w : World) (hp : PoO w b o p1 p2 pn1 pc1 pn2 pc2 pp) (hx : At3 w d x1 x2 xn1 xc1 xn2 xc2 xp 13 14 15) (h1 : PosR w p1 p2 pn1 pn2 xs ys) (h2 : PosR w x1 x2 xn1 xn2 us vs) :
  Calls Tryz.prog 94 #[.pointer (some ⟨b, o, none⟩), .pointer (some ⟨d, 13, none⟩)] w (Still (.bool (sameB xs us ys vs pp xp)) w) := by
 obtain ⟨_, g0, g1, g2⟩ := hp
 obtain ⟨_, k0, k1, k2⟩ := hx
 have C1 := Lib.hid (fun m => l00Same_any p1 x1 pc1 xc1 pn1 xn1 xs us (w.drewN m) h1.l1 h2.l1 (h1.drewN m).r1 (h2.drewN m).r1)
 have C2 := Lib.hid (fun m => l00Same_any p2 x2 pc2 xc2 pn2 xn2 ys vs (w.drewN m) h1.l2 h2.l2 (h1.drewN m).r2 (h2.drewN m).r2)
 clear h1 h2
 unfold sameB
 generalize hv1 : decide (xs = us) = v1 at *
 generalize hv2 : decide (ys = vs) = v2 at *
 clear hv1 hv2
 cases v1
 ·go_enter Tryz.func94, Tryz.ntmps94
  go_wp2_with fail
  go_quiet ((go_at_call 95; with_reducible exact quiet_s (C1.out _) ⟨_, rfl⟩))
  go_wp2_with fail
  go_ret
  exact ⟨rfl, _, rfl⟩
 ·cases v2
  all_goals
   go_enter Tryz.func94, Tryz.ntmps94
   go_wp2_with fail
   go_quiet ((first | (go_at_call 95; with_reducible exact quiet_s (C1.out _) ⟨_, rfl⟩) | (go_at_call 95; with_reducible exact quiet_s (C2.out _) ⟨_, rfl⟩)))
   go_wp2_with fail
   go_ret
   exact ⟨rfl, _, rfl⟩
/- Game7 -/
theorem there18 (v : World) (T : TypeId) : (v.alloc (.cells #[.int .i64 0, .int .i64 0, .bool false, .bool false, .bool false, .bool false, .bool false, .int .i64 0, .int .i64 0, .slice none 0 0, .slice none 0 0, .int .i64 0, .slice none 0 0, .slice none 0 0, .slice none 0 0, .int .i64 0, .int .i64 0, .slice none 0 0] T)).there v.heap.size 0 18 := fun j hj => by
 match j, hj with
 | 0, _ => exact ⟨by go_simp, by go_simp⟩
 | 1, _ => exact ⟨by go_simp, by go_simp⟩
 | 2, _ => exact ⟨by go_simp, by go_simp⟩
 | 3, _ => exact ⟨by go_simp, by go_simp⟩
 | 4, _ => exact ⟨by go_simp, by go_simp⟩
 | 5, _ => exact ⟨by go_simp, by go_simp⟩
 | 6, _ => exact ⟨by go_simp, by go_simp⟩
 | 7, _ => exact ⟨by go_simp, by go_simp⟩
 | 8, _ => exact ⟨by go_simp, by go_simp⟩
 | 9, _ => exact ⟨by go_simp, by go_simp⟩
 | 10, _ => exact ⟨by go_simp, by go_simp⟩
 | 11, _ => exact ⟨by go_simp, by go_simp⟩
 | 12, _ => exact ⟨by go_simp, by go_simp⟩
 | 13, _ => exact ⟨by go_simp, by go_simp⟩
 | 14, _ => exact ⟨by go_simp, by go_simp⟩
 | 15, _ => exact ⟨by go_simp, by go_simp⟩
 | 16, _ => exact ⟨by go_simp, by go_simp⟩
 | 17, _ => exact ⟨by go_simp, by go_simp⟩
 | n + 18, h => exact absurd h (by omega)
structure Th18 (u : World) (z : Nat) : Prop where
 lt : z < u.heap.size
 th : u.there z 0 18
theorem Th18.below {u v : World} {z : Nat} (h : Th18 u z) (k : Below u.heap.size u v) : Th18 v z := ⟨Nat.lt_of_lt_of_le h.lt k.size, there_of h.th h.lt k⟩
theorem pl_one (p s c l qp : Int) (st sk re fe ag : Bool) (g1 c1 g2 c2 g4 c4 g5 c5 qn1 qn2 : Nat) : (List.toArray ([.int .i64 p, .int .i64 s, .bool st, .bool sk, .bool re, .bool fe, .bool ag, .int .i64 c, .int .i64 l, .slice (some ⟨g1, 0, none⟩) qn1 c1, .slice (some ⟨g2, 0, none⟩) qn2 c2, .int .i64 qp, .slice none 0 0, .slice (some ⟨g4, 0, none⟩) qn1 c4, .slice (some ⟨g5, 0, none⟩) qn2 c5, .int .i64 qp, .int .i64 (-1), .slice none 0 0] : List Value)).all (·.oneCell') = true := all_oneCell_toArray (by simp [Value.oneCell'])
/- Bp8 -/
def NewPC (p s c l : Int) (st sk re fe ag : Bool) (qn1 qn2 : Nat) (qp : Int) (xs ys : List Int) (w : World) (e : Ending) (w' : World) : Prop :=
 ∃ g1 c1 g2 c2 g4 c4 g5 c5 : Nat, e = .returned (.agg #[.int .i64 p, .int .i64 s, .bool st, .bool sk, .bool re, .bool fe, .bool ag, .int .i64 c, .int .i64 l, .slice (some ⟨g1, 0, none⟩) qn1 c1, .slice (some ⟨g2, 0, none⟩) qn2 c2, .int .i64 qp, .slice none 0 0, .slice (some ⟨g4, 0, none⟩) qn1 c4, .slice (some ⟨g5, 0, none⟩) qn2 c5, .int .i64 qp, .int .i64 (-1), .slice none 0 0]) ∧ NewR w w' g1 g2 g4 g5 qn1 qn2 xs ys ∧ qn1 ≤ c1 ∧ qn2 ≤ c2 ∧ qn1 ≤ c4 ∧ qn2 ≤ c5
theorem beginPlayC_any (p s c l : Int) (st sk re fe ag : Bool) (q1 q2 : Option Addr) (qn1 qc1 qn2 qc2 : Nat) (qp : Int) (xs ys : List Int) (w : World) (h : PosR w q1 q2 qn1 qn2 xs ys) (hne1 : xs ≠ []) (hne2 : ys ≠ []) :
  Calls Tryz.prog 85 #[.agg #[.int .i64 p, .int .i64 s, .bool st, .bool sk, .bool re, .bool fe, .bool ag, .int .i64 c, .int .i64 l], .agg #[.slice q1 qn1 qc1, .slice q2 qn2 qc2, .int .i64 qp]] w (NewPC p s c l st sk re fe ag qn1 qn2 qp xs ys w) := by
 have H := Lib.hid h
 have HN := Lib.hid (And.intro hne1 hne2)
 have hs := rp_new p s c l st sk re fe ag q1 q2 qn1 qc1 qn2 qc2 qp w 32 33
 have hth := there18 ((w.alloc (.cells #[.int .i64 p, .int .i64 s, .bool st, .bool sk, .bool re, .bool fe, .bool ag, .int .i64 c, .int .i64 l] 32)).alloc (.cells #[.slice q1 qn1 qc1, .slice q2 qn2 qc2, .int .i64 qp] 33)) 72
 have hbz := al1 ((w.alloc (.cells #[.int .i64 p, .int .i64 s, .bool st, .bool sk, .bool re, .bool fe, .bool ag, .int .i64 c, .int .i64 l] 32)).alloc (.cells #[.slice q1 qn1 qc1, .slice q2 qn2 qc2, .int .i64 qp] 33)) (.cells #[.int .i64 0, .int .i64 0, .bool false, .bool false, .bool false, .bool false, .bool false, .int .i64 0, .int .i64 0, .slice none 0 0, .slice none 0 0, .int .i64 0, .slice none 0 0, .slice none 0 0, .slice none 0 0, .int .i64 0, .int .i64 0, .slice none 0 0] 72)
 have hsz : ((w.alloc (.cells #[.int .i64 p, .int .i64 s, .bool st, .bool sk, .bool re, .bool fe, .bool ag, .int .i64 c, .int .i64 l] 32)).alloc (.cells #[.slice q1 qn1 qc1, .slice q2 qn2 qc2, .int .i64 qp] 33)).heap.size = w.heap.size + 1 + 1 := by simp
 rw [hsz] at hth
 have HR := Lib.hid (hs.1.below hbz)
 have HP := Lib.hid (hs.2.1.below hbz)
 have HB := Lib.hid (hs.2.2.trans (hbz.mono hs.2.2.size))
 have HG : Hid (Th18 (((w.alloc (.cells #[.int .i64 p, .int .i64 s, .bool st, .bool sk, .bool re, .bool fe, .bool ag, .int .i64 c, .int .i64 l] 32)).alloc (.cells #[.slice q1 qn1 qc1, .slice q2 qn2 qc2, .int .i64 qp] 33)).alloc (.cells #[.int .i64 0, .int .i64 0, .bool false, .bool false, .bool false, .bool false, .bool false, .int .i64 0, .int .i64 0, .slice none 0 0, .slice none 0 0, .int .i64 0, .slice none 0 0, .slice none 0 0, .slice none 0 0, .int .i64 0, .int .i64 0, .slice none 0 0] 72)) (w.heap.size + 1 + 1)) := Lib.hid ⟨by simp, hth⟩
 have hw1 : w.heap.size + 1 + 1 < (((w.alloc (.cells #[.int .i64 p, .int .i64 s, .bool st, .bool sk, .bool re, .bool fe, .bool ag, .int .i64 c, .int .i64 l] 32)).alloc (.cells #[.slice q1 qn1 qc1, .slice q2 qn2 qc2, .int .i64 qp] 33)).alloc (.cells #[.int .i64 0, .int .i64 0, .bool false, .bool false, .bool false, .bool false, .bool false, .int .i64 0, .int .i64 0, .slice none 0 0, .slice none 0 0, .int .i64 0, .slice none 0 0, .slice none 0 0, .slice none 0 0, .int .i64 0, .int .i64 0, .slice none 0 0] 72)).heap.size := by simp
 clear h hne1 hne2 hs hth hbz hsz
 go_enter Tryz.func85, Tryz.ntmps85
 go_upto_region 1 with fail
 generalize hU : ((w.alloc (.cells #[.int .i64 p, .int .i64 s, .bool st, .bool sk, .bool re, .bool fe, .bool ag, .int .i64 c, .int .i64 l] 32)).alloc (.cells #[.slice q1 qn1 qc1, .slice q2 qn2 qc2, .int .i64 qp] 33)).alloc (.cells #[.int .i64 0, .int .i64 0, .bool false, .bool false, .bool false, .bool false, .bool false, .int .i64 0, .int .i64 0, .slice none 0 0, .slice none 0 0, .int .i64 0, .slice none 0 0, .slice none 0 0, .slice none 0 0, .int .i64 0, .int .i64 0, .slice none 0 0] 72) = U at *
 clear hU
 refine wp_region_held_drew (S := fun u => u.rangeAt w.heap.size 0 [.int .i64 p, .int .i64 s, .bool st, .bool sk, .bool re, .bool fe, .bool ag, .int .i64 c, .int .i64 l] ∧ u.rangeAt (w.heap.size + 1) 0 [.slice q1 qn1 qc1, .slice q2 qn2 qc2, .int .i64 qp]) (by kernel_rfl) ⟨RuAt.range9 HR.out, PoAt.range3 HP.out⟩ (fun hHeld => ?_)
 have HR := Lib.hid (HR.out.below (below_dn (Below.refl _ _) 1))
 have HP := Lib.hid (HP.out.below (below_dn (Below.refl _ _) 1))
 have HB := Lib.hid (below_dn HB.out 1)
 have HG := Lib.hid (HG.out.below (below_dn (Below.refl _ _) 1))
 refine wpAnyH_take (i := 0) rfl (by kernel_rfl) (by kernel_rfl) (by kernel_rfl) (fun _ _ _ h => h) (yieldsIf_load_mid (by rfl) 32 _ rfl w.heap.size 0 rfl [.int .i64 p, .int .i64 s, .bool st, .bool sk, .bool re, .bool fe, .bool ag, .int .i64 c, .int .i64 l] _ (fun u hu => hu.1) Tryz.underlying32 rfl (by kernel_rfl)) hHeld ?_
 simp only [Act.put, List.setIfInBounds_toArray]
 refine wpAnyH_take (i := 1) rfl (by kernel_rfl) (by kernel_rfl) (by kernel_rfl) (fun _ _ _ h => h) (yieldsIf_load_mid (by rfl) 33 _ rfl (w.heap.size + 1) 0 rfl [.slice q1 qn1 qc1, .slice q2 qn2 qc2, .int .i64 qp] _ (fun u hu => hu.2) Tryz.underlying33 rfl (by kernel_rfl)) hHeld ?_
 simp only [Act.put]
 refine wpAnyH_take (i := 3) rfl (by kernel_rfl) (by kernel_rfl) (by kernel_rfl) (fun _ _ _ h => h) (yieldsIf_load_mid (by rfl) 33 _ rfl (w.heap.size + 1) 0 rfl [.slice q1 qn1 qc1, .slice q2 qn2 qc2, .int .i64 qp] _ (fun u hu => hu.2) Tryz.underlying33 rfl (by kernel_rfl)) hHeld ?_
 simp only [Act.put]
 refine wpAnyH_ready (rs := [2]) (by kernel_rfl) (by simp) ?_
 refine AllReadyH.cons rfl (fun K hK => ?_) AllReadyH.nil
 rw [if_pos (by rfl)]
 go_simp
 go_at_call 118
 refine (copy_any q1 q2 qn1 qc1 qn2 qc2 qp xs ys _ (H.out.below HB.out) HN.out.1 HN.out.2).mono ?_
 rintro e w2 ⟨g1, c1, g2, c2, rfl, ho, lg, lh, lc, ld, hb⟩
 have HR := Lib.hid (HR.out.below hb)
 have HP := Lib.hid (HP.out.below hb)
 have HG := Lib.hid (HG.out.below hb)
 have HB := Lib.hid (HB.out.trans (hb.mono HB.out.size))
 have O1 := Lib.hid ho
 have O1l := Lib.hid (And.intro lg (And.intro lh (And.intro lc ld)))
 clear hb ho lg lh lc ld
 (try dsimp only)
 refine hK.out _ _ ⟨RuAt.range9 HR.out, PoAt.range3 HP.out⟩ (fun hHeld => ?_)
 clear hK K
 (try simp only [Act.put, List.setIfInBounds_toArray, List.set_cons_zero, List.set_cons_succ])
 refine wpAnyH_ready (rs := [4]) (by kernel_rfl) (by simp) ?_
 refine AllReadyH.cons rfl (fun K hK => ?_) AllReadyH.nil
 rw [if_pos (by rfl)]
 go_simp
 go_at_call 118
 refine (copy_any q1 q2 qn1 qc1 qn2 qc2 qp xs ys _ (H.out.below HB.out) HN.out.1 HN.out.2).mono ?_
 rintro e w4 ⟨g4, c4, g5, c5, rfl, ho, lg, lh, lc, ld, hb⟩
 have HR := Lib.hid (HR.out.below hb)
 have HP := Lib.hid (HP.out.below hb)
 have HG := Lib.hid (HG.out.below hb)
 have O1 := Lib.hid (O1.out.below hb)
 have HB := Lib.hid (HB.out.trans (hb.mono HB.out.size))
 have O2 := Lib.hid ho
 have O2l := Lib.hid (And.intro lg (And.intro lh (And.intro lc ld)))
 clear hb ho lg lh lc ld
 (try dsimp only)
 refine hK.out _ _ ⟨RuAt.range9 HR.out, PoAt.range3 HP.out⟩ (fun hHeld => ?_)
 clear hK K
 (try simp only [Act.put, List.setIfInBounds_toArray, List.set_cons_zero, List.set_cons_succ])
 refine wpAnyH_take (i := 5) (oi := { dst := some 10, op := Op.build 35 #[(0, Operand.tmp 5), (1, Operand.tmp 7), (3, Operand.tmp 9), (4, Operand.const (Value.int IntKind.i64 (-1)))], type := 35, pos := "l08_games.go:32", after := #[{ on := 0, ground := Ground.data }, { on := 2, ground := Ground.data }, { on := 4, ground := Ground.data }], guard := none }) (v := .agg #[.int .i64 p, .int .i64 s, .bool st, .bool sk, .bool re, .bool fe, .bool ag, .int .i64 c, .int .i64 l, .slice (some ⟨g1, 0, none⟩) qn1 c1, .slice (some ⟨g2, 0, none⟩) qn2 c2, .int .i64 qp, .slice none 0 0, .slice (some ⟨g4, 0, none⟩) qn1 c4, .slice (some ⟨g5, 0, none⟩) qn2 c5, .int .i64 qp, .int .i64 (-1)]) rfl (by kernel_rfl) (by kernel_rfl) (by kernel_rfl) (fun _ _ _ h => h) (.inl ⟨by rfl, fun u hu => by (try dsimp only at hu); go_simp; try with_reducible rfl⟩) hHeld ?_
 simp only [Act.put, List.setIfInBounds_toArray, List.set_cons_zero, List.set_cons_succ]
 refine wpAnyH_take (i := 6) (oi := { dst := some 11, op := Op.build 72 #[(0, Operand.tmp 10)], type := 72, pos := "l08_games.go:32", after := #[{ on := 5, ground := Ground.data }], guard := none }) (v := .agg #[.int .i64 p, .int .i64 s, .bool st, .bool sk, .bool re, .bool fe, .bool ag, .int .i64 c, .int .i64 l, .slice (some ⟨g1, 0, none⟩) qn1 c1, .slice (some ⟨g2, 0, none⟩) qn2 c2, .int .i64 qp, .slice none 0 0, .slice (some ⟨g4, 0, none⟩) qn1 c4, .slice (some ⟨g5, 0, none⟩) qn2 c5, .int .i64 qp, .int .i64 (-1), .slice none 0 0]) rfl (by kernel_rfl) (by kernel_rfl) (by kernel_rfl) (fun _ _ _ h => h) (.inl ⟨by rfl, fun u hu => by (try dsimp only at hu); go_simp; try with_reducible rfl⟩) hHeld ?_
 simp only [Act.put, List.setIfInBounds_toArray, List.set_cons_zero, List.set_cons_succ]
 refine wpAnyH_ready (rs := [7]) (by kernel_rfl) (by simp) ?_
 refine AllReadyH.cons rfl (fun K hK => ?_) AllReadyH.nil
 rw [if_pos (by rfl)]
 refine wp_store_mid 72 _ _ rfl (w.heap.size + 1 + 1) 0 (List.toArray [.int .i64 p, .int .i64 s, .bool st, .bool sk, .bool re, .bool fe, .bool ag, .int .i64 c, .int .i64 l, .slice (some ⟨g1, 0, none⟩) qn1 c1, .slice (some ⟨g2, 0, none⟩) qn2 c2, .int .i64 qp, .slice none 0 0, .slice (some ⟨g4, 0, none⟩) qn1 c4, .slice (some ⟨g5, 0, none⟩) qn2 c5, .int .i64 qp, .int .i64 (-1), .slice none 0 0]) rfl rfl HG.out.th (by kernel_rfl) (pl_one p s c l qp st sk re fe ag g1 c1 g2 c2 g4 c4 g5 c5 qn1 qn2) ?_
 simp only [Act.put, List.setIfInBounds_toArray]
 refine hK.out _ _ ⟨RuAt.range9 (HR.out.but (but_scg (w.heap.size + 1 + 1) [.int .i64 p, .int .i64 s, .bool st, .bool sk, .bool re, .bool fe, .bool ag, .int .i64 c, .int .i64 l, .slice (some ⟨g1, 0, none⟩) qn1 c1, .slice (some ⟨g2, 0, none⟩) qn2 c2, .int .i64 qp, .slice none 0 0, .slice (some ⟨g4, 0, none⟩) qn1 c4, .slice (some ⟨g5, 0, none⟩) qn2 c5, .int .i64 qp, .int .i64 (-1), .slice none 0 0] 0 (But.refl _ _)) (by omega)), PoAt.range3 (HP.out.but (but_scg (w.heap.size + 1 + 1) [.int .i64 p, .int .i64 s, .bool st, .bool sk, .bool re, .bool fe, .bool ag, .int .i64 c, .int .i64 l, .slice (some ⟨g1, 0, none⟩) qn1 c1, .slice (some ⟨g2, 0, none⟩) qn2 c2, .int .i64 qp, .slice none 0 0, .slice (some ⟨g4, 0, none⟩) qn1 c4, .slice (some ⟨g5, 0, none⟩) qn2 c5, .int .i64 qp, .int .i64 (-1), .slice none 0 0] 0 (But.refl _ _)) (by omega))⟩ (fun hHeld => ?_)
 clear hK K
 (try simp only [Act.put, List.setIfInBounds_toArray, List.set_cons_zero, List.set_cons_succ])
 refine wpAnyH_done (by kernel_rfl) ?_ _
 go_wp2_with fail
 have hrun := run_loadVar_mid (P := Tryz.prog) _ (w.heap.size + 1 + 1) 0 72 [.int .i64 p, .int .i64 s, .bool st, .bool sk, .bool re, .bool fe, .bool ag, .int .i64 c, .int .i64 l, .slice (some ⟨g1, 0, none⟩) qn1 c1, .slice (some ⟨g2, 0, none⟩) qn2 c2, .int .i64 qp, .slice none 0 0, .slice (some ⟨g4, 0, none⟩) qn1 c4, .slice (some ⟨g5, 0, none⟩) qn2 c5, .int .i64 qp, .int .i64 (-1), .slice none 0 0] _ (World.rangeAt_setCells_same w4 (w.heap.size + 1 + 1) 0 [.int .i64 p, .int .i64 s, .bool st, .bool sk, .bool re, .bool fe, .bool ag, .int .i64 c, .int .i64 l, .slice (some ⟨g1, 0, none⟩) qn1 c1, .slice (some ⟨g2, 0, none⟩) qn2 c2, .int .i64 qp, .slice none 0 0, .slice (some ⟨g4, 0, none⟩) qn1 c4, .slice (some ⟨g5, 0, none⟩) qn2 c5, .int .i64 qp, .int .i64 (-1), .slice none 0 0] HG.out.th) Tryz.underlying72 rfl (by kernel_rfl)
 have o1 : U.heap.size ≤ g1 := O1.out.o1.new
 have o2 : U.heap.size ≤ g2 := O1.out.o2.new
 have o4 := O2.out.o1.new
 have o5 := O2.out.o2.new
 obtain ⟨p1, p2, -, -⟩ := O1l.out
 obtain ⟨p4, p5, -, -⟩ := O2l.out
 refine bodyPost_ret (v := .agg (List.toArray [.int .i64 p, .int .i64 s, .bool st, .bool sk, .bool re, .bool fe, .bool ag, .int .i64 c, .int .i64 l, .slice (some ⟨g1, 0, none⟩) qn1 c1, .slice (some ⟨g2, 0, none⟩) qn2 c2, .int .i64 qp, .slice none 0 0, .slice (some ⟨g4, 0, none⟩) qn1 c4, .slice (some ⟨g5, 0, none⟩) qn2 c5, .int .i64 qp, .int .i64 (-1), .slice none 0 0])) ?_ rfl ⟨g1, c1, g2, c2, g4, c4, g5, c5, rfl, NewR.sc (w.heap.size + 1 + 1) _ 0 ⟨O1.out.lower (show w.heap.size ≤ U.heap.size by omega), O2.out.lower (by omega), ?_, ?_, O2l.out.1, O2l.out.2.1, ?_, ?_, ?_, ?_, HB.out⟩ (by omega) (by omega) (by omega) (by omega) (by omega), O1l.out.2.2.1, O1l.out.2.2.2, O2l.out.2.2.1, O2l.out.2.2.2⟩
 ·simp [results, Tryz.results85, asAddr, hrun]
 all_goals omega
/- Maj13 -/
def Po13 (u : World) (d : Nat) (p1 p2 : Option Addr) (pn1 pc1 pn2 pc2 : Nat) (pp : Int) : Prop := d < u.heap.size ∧ u.cell? ⟨d, 13, none⟩ = some (.slice p1 pn1 pc1) ∧ u.cell? ⟨d, 14, none⟩ = some (.slice p2 pn2 pc2) ∧ u.cell? ⟨d, 15, none⟩ = some (.int .i64 pp)
theorem Po13.below {u v : World} {d : Nat} {p1 p2 : Option Addr} {pn1 pc1 pn2 pc2 : Nat} {pp : Int} (h : Po13 u d p1 p2 pn1 pc1 pn2 pc2 pp) (k : Below u.heap.size u v) : Po13 v d p1 p2 pn1 pc1 pn2 pc2 pp := by
 obtain ⟨hb, h⟩ := h
 have e := fun o => k.cell (p := ⟨d, o, none⟩) hb
 exact ⟨Nat.lt_of_lt_of_le hb k.size, by rw [e, e, e]; exact h⟩
theorem Po13.but {u v : World} {d g : Nat} {p1 p2 : Option Addr} {pn1 pc1 pn2 pc2 : Nat} {pp : Int} (h : Po13 u d p1 p2 pn1 pc1 pn2 pc2 pp) (k : But g u v) (hg : d ≠ g) : Po13 v d p1 p2 pn1 pc1 pn2 pc2 pp := by
 obtain ⟨hb, h⟩ := h
 have e := fun o => k.cell (o := o) hb hg
 exact ⟨Nat.lt_of_lt_of_le hb k.size, by rw [e, e, e]; exact h⟩
theorem Po13.drew {u : World} {d : Nat} {p1 p2 : Option Addr} {pn1 pc1 pn2 pc2 : Nat} {pp : Int} (h : Po13 u d p1 p2 pn1 pc1 pn2 pc2 pp) : Po13 u.drew d p1 p2 pn1 pc1 pn2 pc2 pp := h
theorem Po13.set3 {u : World} {d z : Nat} {p1 p2 : Option Addr} {pn1 pc1 pn2 pc2 : Nat} {pp : Int} (h : Po13 u d p1 p2 pn1 pc1 pn2 pc2 pp) (hz : d ≠ z) (x y t : Value) : Po13 (((u.setCell ⟨z, 0, none⟩ x).setCell ⟨z, 1, none⟩ y).setCell ⟨z, 2, none⟩ t) d p1 p2 pn1 pc1 pn2 pc2 pp :=
 h.but ((((But.refl z u).setCell (p := ⟨z, 0, none⟩) rfl x).setCell (p := ⟨z, 1, none⟩) rfl y).setCell (p := ⟨z, 2, none⟩) rfl t) hz
theorem GmAt.p13 {u : World} {b : Nat} {Jp Js Jc Jl : Int} {Jst Jsk Jre Jfe Jag : Bool} {Ja1 Ja2 : Option Addr} {Jan1 Jac1 Jan2 Jac2 : Nat} {Jap : Int} {Jm : Option Addr} {Jmn Jmc : Nat} {Jb1 Jb2 : Option Addr} {Jbn1 Jbc1 Jbn2 Jbc2 : Nat} {Jbp Jrg : Int} (h : GmAt u b Jp Js Jc Jl Jst Jsk Jre Jfe Jag Ja1 Ja2 Jan1 Jac1 Jan2 Jac2 Jap Jm Jmn Jmc Jb1 Jb2 Jbn1 Jbc1 Jbn2 Jbc2 Jbp Jrg) : Po13 u b Jb1 Jb2 Jbn1 Jbc1 Jbn2 Jbc2 Jbp := h.s13
theorem l09All13_any (p1 p2 : Option Addr) (pn1 pc1 pn2 pc2 : Nat) (pp : Int) (xs ys : List Int) (d : Nat) (w : World) (hq : Po13 w d p1 p2 pn1 pc1 pn2 pc2 pp) (h : PosR w p1 p2 pn1 pn2 xs ys) (hs : seedB xs ys = true) :
  Calls Tryz.prog 130 #[.pointer (some ⟨d, 13, none⟩)] w (Still (.int .i64 (tot xs + tot ys)) w) := by
 obtain ⟨q1, q2, q3⟩ := seedB_parts hs
 have q4 := posB_tot q1
 have q5 := posB_tot q2
 have e1 : sumC xs = tot xs := sumC_yes (inB_of_pos q1 (by omega)) (by omega)
 have e2 : sumC ys = tot ys := sumC_yes (inB_of_pos q2 (by omega)) (by omega)
 have H1 : Hid (∀ m, Calls Tryz.prog 121 #[.slice p1 pn1 pc1] (w.drewN m) fun e w' => e = .returned (.int .i64 (tot xs)) ∧ w.drewN m = w') := Lib.hid (fun m => by rw [← e1]; exact l04Sum_any p1 pc1 pn1 xs _ h.l1 (h.r1.drewN m))
 have H2 : Hid (∀ m, Calls Tryz.prog 121 #[.slice p2 pn2 pc2] (w.drewN m) fun e w' => e = .returned (.int .i64 (tot ys)) ∧ w.drewN m = w') := Lib.hid (fun m => by rw [← e2]; exact l04Sum_any p2 pc2 pn2 ys _ h.l2 (h.r2.drewN m))
 obtain ⟨_, t0, t1, t2⟩ := hq
 generalize tot xs = tx at *
 generalize tot ys = ty at *
 have hw1 : IntKind.i64.wrap (tx + ty) = tx + ty := IntWalk.i64_in _ ⟨by omega, by omega⟩
 clear hs h e1 e2
 go_enter Tryz.func130, Tryz.ntmps130
 go_wp2_with fail
 go_quiet ((first | (go_at_call 121; with_reducible exact quiet_w (H1.out _) ⟨_, rfl⟩) | (go_at_call 121; with_reducible exact quiet_w (H2.out _) ⟨_, rfl⟩)))
 go_wp2_with fail
 go_ret
 exact ⟨rfl, by first | exact ⟨_, rfl⟩ | exact ⟨_, World.drewN_drewN _ _ _⟩⟩
theorem l09Maj13_any (p1 p2 : Option Addr) (pn1 pc1 pn2 pc2 : Nat) (pp : Int) (xs : List Int) (y0 y1 : Int) (d : Nat) (w : World) (hq : Po13 w d p1 p2 pn1 pc1 pn2 pc2 pp) (h : PosR w p1 p2 pn1 pn2 xs [y0, y1]) (hs : seedB xs [y0, y1] = true) :
  Calls Tryz.prog 98 #[.pointer (some ⟨d, 13, none⟩)] w (Still (.int .i64 (majV (tot xs + (y0 + y1)) y0 y1)) w) := by
 obtain ⟨q1, q2, q3⟩ := seedB_parts hs
 have q4 := posB_tot q1
 simp only [posB, List.all_cons, List.all_nil, Bool.and_true, Bool.and_eq_true, decide_eq_true_eq] at q2
 obtain ⟨r0, r1⟩ := q2
 rw [tot2] at q3
 have b0 : y0 ≤ 96 := by omega
 have b1 : y1 ≤ 96 := by omega
 have HA : Hid (∀ m n, Calls Tryz.prog 130 #[.pointer (some ⟨d, 13, none⟩)] ((w.drewN m).drewN n) (Still (.int .i64 (tot xs + (y0 + y1))) ((w.drewN m).drewN n))) := Lib.hid (fun m n => by have := l09All13_any p1 p2 pn1 pc1 pn2 pc2 pp xs [y0, y1] d ((w.drewN m).drewN n) (hq.below (below_dn (below_dn (Below.refl _ _) m) n)) ((h.drewN m).drewN n) hs; rwa [tot2] at this)
 have HQ := Lib.hid hq
 obtain ⟨g, o, rfl, hg, z0, z1⟩ := row_two h.r2
 obtain rfl : 2 = pn2 := h.l2
 generalize tot xs + (y0 + y1) = t at *
 have HZ := Lib.hid (And.intro hg (And.intro z0 z1))
 clear h hs hq z0 z1
 by_cases m0 : t < 2 * y0
 ·have e : majV t y0 y1 = 0 := by unfold majV; rw [if_pos m0]
  rw [e]
  clear e
  go_enter Tryz.func98, Tryz.ntmps98
  go_wp2_with fail
  go_loopw [3] (fun i wr => ∃ k m : Nat, k ≤ 0 ∧ i = .int .i64 k ∧ wr = w.drewN m) (fun i _ => 2 - (intOf i).toNat)
  case atStart => exact ⟨0, 0, Nat.le_refl _, rfl, rfl⟩
  case round =>
   obtain ⟨k, m, hk, rfl, hwr⟩ := hrel
   have HAr : Hid (∀ n, Calls Tryz.prog 130 #[.pointer (some ⟨d, 13, none⟩)] (wr.drewN n) (Still (.int .i64 t) (wr.drewN n))) := Lib.hid (by rw [hwr]; exact HA.out m)
   obtain ⟨_, t0, t1, t2⟩ : Po13 wr d p1 (some ⟨g, o, none⟩) pn1 pc1 2 pc2 pp := by rw [hwr]; exact HQ.out.below (below_dn (Below.refl _ _) m)
   have z0 : wr.cell? ⟨g, o, none⟩ = some (.int .i64 y0) := by rw [hwr]; exact (Below.cell (below_dn (Below.refl w.heap.size w) m) (p := ⟨g, o, none⟩) HZ.out.1).trans HZ.out.2.1
   have z1 : wr.cell? ⟨g, o + 1, none⟩ = some (.int .i64 y1) := by rw [hwr]; exact (Below.cell (below_dn (Below.refl w.heap.size w) m) (p := ⟨g, o + 1, none⟩) HZ.out.1).trans HZ.out.2.2
   have HWr := Lib.hid hwr
   clear hwr
   obtain rfl : k = 0 := by omega
   go_wp2_with fail
   go_quiet ((go_at_call 130; exact quiet_s (HAr.out _) ⟨_, rfl⟩))
   go_wp2_with fail
   go_ret
   exact ⟨rfl, by rw [HWr.out]; first | exact ⟨_, rfl⟩ | exact ⟨_, World.drewN_drewN _ _ _⟩⟩
 ·by_cases m1 : t < 2 * y1
  ·have e : majV t y0 y1 = 1 := by unfold majV; rw [if_neg m0, if_pos m1]
   rw [e]
   clear e
   go_enter Tryz.func98, Tryz.ntmps98
   go_wp2_with fail
   go_loopw [3] (fun i wr => ∃ k m : Nat, k ≤ 1 ∧ i = .int .i64 k ∧ wr = w.drewN m) (fun i _ => 2 - (intOf i).toNat)
   case atStart => exact ⟨0, 0, by omega, rfl, rfl⟩
   case round =>
    obtain ⟨k, m, hk, rfl, hwr⟩ := hrel
    have HAr : Hid (∀ n, Calls Tryz.prog 130 #[.pointer (some ⟨d, 13, none⟩)] (wr.drewN n) (Still (.int .i64 t) (wr.drewN n))) := Lib.hid (by rw [hwr]; exact HA.out m)
    obtain ⟨_, t0, t1, t2⟩ : Po13 wr d p1 (some ⟨g, o, none⟩) pn1 pc1 2 pc2 pp := by rw [hwr]; exact HQ.out.below (below_dn (Below.refl _ _) m)
    have z0 : wr.cell? ⟨g, o, none⟩ = some (.int .i64 y0) := by rw [hwr]; exact (Below.cell (below_dn (Below.refl w.heap.size w) m) (p := ⟨g, o, none⟩) HZ.out.1).trans HZ.out.2.1
    have z1 : wr.cell? ⟨g, o + 1, none⟩ = some (.int .i64 y1) := by rw [hwr]; exact (Below.cell (below_dn (Below.refl w.heap.size w) m) (p := ⟨g, o + 1, none⟩) HZ.out.1).trans HZ.out.2.2
    have HWr := Lib.hid hwr
    clear hwr
    rcases (show k = 0 ∨ k = 1 by omega) with rfl | rfl
    ·go_wp2_with fail
     go_quiet ((go_at_call 130; exact quiet_s (HAr.out _) ⟨_, rfl⟩))
     go_wp2_with fail
     go_roundw
     case rel => exact ⟨1, _, by omega, by go_num, by rw [HWr.out]; first | rfl | exact World.drewN_drewN _ _ _⟩
     case measure => simp [intOf]
    ·go_wp2_with fail
     go_quiet ((go_at_call 130; exact quiet_s (HAr.out _) ⟨_, rfl⟩))
     go_wp2_with fail
     go_ret
     exact ⟨rfl, by rw [HWr.out]; first | exact ⟨_, rfl⟩ | exact ⟨_, World.drewN_drewN _ _ _⟩⟩
  ·have e : majV t y0 y1 = -1 := by unfold majV; rw [if_neg m0, if_neg m1]
   rw [e]
   clear e
   go_enter Tryz.func98, Tryz.ntmps98
   go_wp2_with fail
   go_loopw [3] (fun i wr => ∃ k m : Nat, k ≤ 2 ∧ i = .int .i64 k ∧ wr = w.drewN m) (fun i _ => 2 - (intOf i).toNat)
   case atStart => exact ⟨0, 0, by omega, rfl, rfl⟩
   case round =>
    obtain ⟨k, m, hk, rfl, hwr⟩ := hrel
    have HAr : Hid (∀ n, Calls Tryz.prog 130 #[.pointer (some ⟨d, 13, none⟩)] (wr.drewN n) (Still (.int .i64 t) (wr.drewN n))) := Lib.hid (by rw [hwr]; exact HA.out m)
    obtain ⟨_, t0, t1, t2⟩ : Po13 wr d p1 (some ⟨g, o, none⟩) pn1 pc1 2 pc2 pp := by rw [hwr]; exact HQ.out.below (below_dn (Below.refl _ _) m)
    have z0 : wr.cell? ⟨g, o, none⟩ = some (.int .i64 y0) := by rw [hwr]; exact (Below.cell (below_dn (Below.refl w.heap.size w) m) (p := ⟨g, o, none⟩) HZ.out.1).trans HZ.out.2.1
    have z1 : wr.cell? ⟨g, o + 1, none⟩ = some (.int .i64 y1) := by rw [hwr]; exact (Below.cell (below_dn (Below.refl w.heap.size w) m) (p := ⟨g, o + 1, none⟩) HZ.out.1).trans HZ.out.2.2
    have HWr := Lib.hid hwr
    clear hwr
    rcases (show k = 0 ∨ k = 1 ∨ k = 2 by omega) with rfl | rfl | rfl
    ·go_wp2_with fail
     go_quiet ((go_at_call 130; exact quiet_s (HAr.out _) ⟨_, rfl⟩))
     go_wp2_with fail
     go_roundw
     case rel => exact ⟨1, _, by omega, by go_num, by rw [HWr.out]; first | rfl | exact World.drewN_drewN _ _ _⟩
     case measure => simp [intOf]
    ·go_wp2_with fail
     go_quiet ((go_at_call 130; exact quiet_s (HAr.out _) ⟨_, rfl⟩))
     go_wp2_with fail
     go_roundw
     case rel => exact ⟨2, _, by omega, by go_num, by rw [HWr.out]; first | rfl | exact World.drewN_drewN _ _ _⟩
     case measure => simp [intOf]
    ·go_wp2_with fail
     go_ret
     exact ⟨rfl, by rw [HWr.out]; first | exact ⟨_, rfl⟩ | exact ⟨_, World.drewN_drewN _ _ _⟩⟩
/- Wat -/
structure WAt (u : World) (lo hi A : Nat) (a1 a2 : Option Addr) (b1 b2 n1 c1 n2 c2 : Nat) (pl : Int) (us vs : List Int) : Prop where
 po : PoAt u A a1 a2 n1 c1 n2 c2 pl
 o : PosO u lo a1 a2 b1 b2 n1 n2 us vs
 lo_le : lo ≤ A
 lt : A < hi
 lt1 : b1 < hi
 lt2 : b2 < hi
 hi_le : hi ≤ u.heap.size
 ne1 : A ≠ b1
 ne2 : A ≠ b2
section
variable {u v w : World} {lo hi A b1 b2 n1 c1 n2 c2 : Nat} {a1 a2 : Option Addr} {pl : Int} {us vs : List Int}
theorem WAt.below (h : WAt u lo hi A a1 a2 b1 b2 n1 c1 n2 c2 pl us vs) (k : Below u.heap.size u v) : WAt v lo hi A a1 a2 b1 b2 n1 c1 n2 c2 pl us vs :=
 ⟨h.po.below k, h.o.below k, h.lo_le, h.lt, h.lt1, h.lt2, Nat.le_trans h.hi_le k.size, h.ne1, h.ne2⟩
theorem WAt.drew (h : WAt u lo hi A a1 a2 b1 b2 n1 c1 n2 c2 pl us vs) : WAt u.drew lo hi A a1 a2 b1 b2 n1 c1 n2 c2 pl us vs := h.below (Below.refl _ _).drew
theorem PoAt.but2 {b c d : Nat} {x1 x2 : Option Addr} {xn1 xc1 xn2 xc2 : Nat} {xp : Int} (h : PoAt u d x1 x2 xn1 xc1 xn2 xc2 xp) (k : But2 b c u v) (hb : d ≠ b) (hc : d ≠ c) : PoAt v d x1 x2 xn1 xc1 xn2 xc2 xp := by
 obtain ⟨hd, h⟩ := h
 have e := fun o => k.cell (d := d) (o := o) hd hb hc
 exact ⟨Nat.lt_of_lt_of_le hd k.size, by rw [e, e, e]; exact h⟩
theorem WAt.but2 {b c : Nat} (h : WAt u lo hi A a1 a2 b1 b2 n1 c1 n2 c2 pl us vs) (k : But2 b c u v) (hb : hi ≤ b ∨ b < lo) (hc : hi ≤ c ∨ c < lo) : WAt v lo hi A a1 a2 b1 b2 n1 c1 n2 c2 pl us vs := by
 have h1 := h.lo_le
 have h2 := h.lt
 have h3 := h.lt1
 have h4 := h.lt2
 have h5 := h.o.o1.new
 have h6 := h.o.o2.new
 exact ⟨h.po.but2 k (by omega) (by omega), h.o.but2 k (by omega) (by omega) (by omega) (by omega), h1, h2, h3, h4, Nat.le_trans h.hi_le k.size, h.ne1, h.ne2⟩
theorem WAt.mark {xs ys : List Int} {us' vs' : List Int} (h : WAt u lo hi A a1 a2 b1 b2 n1 c1 n2 c2 pl us vs) (k : But2 b1 b2 u v) (o : PosO v lo a1 a2 b1 b2 n1 n2 us' vs') : WAt v lo hi A a1 a2 b1 b2 n1 c1 n2 c2 pl us' vs' :=
 ⟨h.po.but2 k h.ne1 h.ne2, o, h.lo_le, h.lt, h.lt1, h.lt2, Nat.le_trans h.hi_le k.size, h.ne1, h.ne2⟩
theorem wat_new (T : TypeId) (pl : Int) (c1 c2 : Nat) (ho : PosO u lo a1 a2 b1 b2 n1 n2 us vs) (h1 : b1 < u.heap.size) (h2 : b2 < u.heap.size) (hlo : lo ≤ u.heap.size) :
  WAt (u.alloc (.cells #[.slice a1 n1 c1, .slice a2 n2 c2, .int .i64 pl] T)) lo (u.heap.size + 1) u.heap.size a1 a2 b1 b2 n1 c1 n2 c2 pl us vs :=
 ⟨po_new _ _ _ _ _ _ _ u T, ho.below (al1 _ _), hlo, by omega, by omega, by omega, by simp, by omega, by omega⟩
theorem WAt.set3 {z : Nat} (h : WAt u lo hi A a1 a2 b1 b2 n1 c1 n2 c2 pl us vs) (x y t : Value) (hz : hi ≤ z) : WAt (((u.setCell ⟨z, 0, none⟩ x).setCell ⟨z, 1, none⟩ y).setCell ⟨z, 2, none⟩ t) lo hi A a1 a2 b1 b2 n1 c1 n2 c2 pl us vs :=
 h.but2 (b := z) (c := z) (.of_l ((((But.refl z u).setCell (p := ⟨z, 0, none⟩) rfl x).setCell (p := ⟨z, 1, none⟩) rfl y).setCell (p := ⟨z, 2, none⟩) rfl t)) (.inl hz) (.inl hz)
variable {p s c l : Int} {st sk re fe ag : Bool} {p1 p2 : Option Addr} {pn1 pc1 pn2 pc2 : Nat} {pp : Int}
theorem RpAt.but2 {b b' : Nat} (h : RpAt w p s c l st sk re fe ag p1 p2 pn1 pc1 pn2 pc2 pp u) (k : But2 b b' u v) (hb : w.heap.size + 1 < b) (hc : w.heap.size + 1 < b') : RpAt w p s c l st sk re fe ag p1 p2 pn1 pc1 pn2 pc2 pp v := by
 refine ⟨?_, h.2.1.but2 k (by omega) (by omega), k.below h.2.2 (by omega) (by omega) h.2.2.size⟩
 obtain ⟨hd, h⟩ := h.1
 have e := fun o => k.cell (d := w.heap.size) (o := o) hd (by omega) (by omega)
 exact ⟨Nat.lt_of_lt_of_le hd k.size, by rw [e, e, e, e, e, e, e, e, e]; exact h⟩
end
/- RefC3 -/
theorem l04Side_p (p : Int) (b : Nat) (a : Option Addr) (cc n : Nat) (xs : List Int) (player : Int) (w : World) (c0 : w.cell? ⟨b, 0, none⟩ = some (.int .i64 p)) (hn : xs.length = n) (h : RowN w a xs) (hp : 2 ≤ p ∧ p ≤ 8) (h2 : (n : Int) = 2 * p) (hpl : player = 0 ∨ player = 1) (hpos : posB xs = true) (ht : tot xs ≤ 96) :
  Calls Tryz.prog 133 #[.pointer (some ⟨b, 0, none⟩), .slice a n cc, .int .i64 player] w fun e w' => e = .returned (.int .i64 (tot (halfL xs p.toNat player))) ∧ w = w' := by
 obtain ⟨P, rfl⟩ : ∃ P : Nat, p = (P : Int) := ⟨p.toNat, by omega⟩
 rw [Int.toNat_natCast]
 exact l04Side_any P b a cc n xs player w c0 hn h (by omega) (by omega) (by omega) hpl hpos ht
theorem l06Slam_any (p s c l : Int) (st sk re fe ag : Bool) (player : Int) (p1 p2 : Option Addr) (pn1 pc1 pn2 pc2 : Nat) (pp pq : Int) (xs ys : List Int) (b d : Nat) (w : World) (hr : RuAt w b p s c l st sk re fe ag) (hs : SoAt w d p1 p2 pn1 pc1 pn2 pc2 pp pq) (h : PosR w p1 p2 pn1 pn2 xs ys) (g : Good p s c l st sk re fe ag player pn1 pn2 pp xs ys) :
  Calls Tryz.prog 137 #[.pointer (some ⟨b, 0, none⟩), .pointer (some ⟨d, 0, none⟩), .int .i64 player] w fun e w' => e = .returned (.bool (slamF c p player pp xs)) ∧ Below w.heap.size w w' := by
 have HX := Lib.hid (show L6N w b d p s c l st sk re fe ag p1 p2 pn1 pc1 pn2 pc2 pp pq w from ⟨hr, hs, Below.refl _ _⟩)
 have HRaw := Lib.hid (l06Raw_any p s c l st sk re fe ag player p1 p2 pn1 pc1 pn2 pc2 pp pq xs ys b d w hr hs h g)
 have H0 := Lib.hid h
 have G := Lib.hid g
 have hRin := g.raw c
 have hLn : (rawF c p player pp xs).length ≤ 1000 := by have := raw_len (cp := c) (pl := player) (xs := xs) g.p2.2 g.p2.1 g.l2; omega
 have g1 := g.p2.1
 have g2 := g.p2.2
 have gn := g.n1
 have HPl : Hid (1 - player = 0 ∨ 1 - player = 1) := Lib.hid (by have := g.pl; omega)
 have hlp : xs.length = 2 * p.toNat := by have := h.l1; omega
 have hht := half_tot hlp HPl.out g.q1
 have HT0 : Hid (tot (halfL xs p.toNat (1 - player)) ≤ 96) := Lib.hid (by have := g.t1; omega)
 have hw1 : IntKind.i64.wrap (1 - player) = 1 - player := IntWalk.i64_in _ ⟨by have := g.pl; omega, by have := g.pl; omega⟩
 obtain ⟨hb, r0, r1, r2, r3, r4, r5, r6, r7, r8⟩ := hr
 obtain ⟨hd, s0, s1, s2, s3⟩ := hs
 have hsl : slamF c p player pp xs = slamB p player xs (rawF c p player pp xs) := rfl
 rw [hsl]
 generalize rawF c p player pp xs = L at *
 generalize hnn : L.length = n at *
 have Hnn := Lib.hid hnn
 have HGn := Lib.hid gn
 clear h g hlp hht hsl hnn gn
 go_enter Tryz.func137, Tryz.ntmps137
 go_wp2_with fail
 refine HRaw.out.mono ?_
 rintro e w5 ⟨v5, rfl, hown, hb5⟩
 obtain ⟨a5, cc5, rfl, hr5⟩ := own_slice hown Hnn.out hLn
 have HR5 := Lib.hid hr5
 have HX := Lib.hid (HX.out.below hb5)
 clear hown hr5 hb5 r0 r1 r2 r3 r4 r5 r6 r7 r8 s0 s1 s2 s3
 obtain ⟨⟨hbl, r0, r1, r2, r3, r4, r5, r6, r7, r8⟩, ⟨hdl, s0, s1, s2, s3⟩, -⟩ := HX.out
 go_wp2_with fail
 go_loopw [8, 9] (fun s0 i wr => ∃ (k m : Nat) (t : Int), k ≤ n ∧ i = .int .i64 k ∧ s0 = .int .i64 t ∧ wr = w5.drewN m ∧ t = takenF p player xs (L.take k)) (fun _ i _ => n - (intOf i).toNat)
 case atStart => exact ⟨0, 0, 0, Nat.zero_le _, rfl, rfl, rfl, rfl⟩
 case round =>
  obtain ⟨k, m, t, hk, rfl, rfl, rfl, ht'⟩ := hrel
  have hb := taken_bd G.out.q1 G.out.t1 p player (L.take k)
  rw [← ht', List.length_take] at hb
  obtain ⟨b0, b1⟩ := hb
  have b2 : t ≤ 96 * 1000 := by omega
  have Ht := Lib.hid ht'
  clear ht' b1
  by_cases hlt : k < n
  ·obtain ⟨q, hq⟩ : ∃ q, L[k]? = some q := ⟨L[k]'(by rw [Hnn.out]; exact hlt), List.getElem?_eq_getElem _⟩
   obtain ⟨q0, q1⟩ := hRin q (List.mem_of_getElem? hq)
   obtain ⟨Q, rfl⟩ : ∃ Q : Nat, q = (Q : Int) := ⟨q.toNat, by omega⟩
   have hne : L ≠ [] := by intro e; subst e; cases hq
   obtain ⟨ga, oa, rfl, hga, hca⟩ := HR5.out.2.resolve_left hne
   have ya := hca k _ hq
   obtain ⟨gx, ox, rfl, hg, y⟩ := rowV (k := Q) (H0.out.below HX.out.be).r1 (by have := H0.out.l1; omega)
   obtain ⟨v1, v2⟩ := vAt_bd G.out.q1 G.out.t1 (Q : Int)
   have q2 : (Q : Int) < 2 * p := by have := HGn.out; omega
   have hst := taken_snoc p player xs (L.take k) (Q : Int)
   rw [← take_next hq, ← Ht.out] at hst
   have hne2 := own_ne (p := p) (pl := player) g1 q0 q2 G.out.pl
   have k0 : (0 : Int) ≤ (k : Int) := by omega
   have k1 : (k : Int) < (n : Int) := by omega
   clear hca hq hne
   generalize vAt xs (Q : Int) = v at *
   rcases hb : ownB p (1 - player) (Q : Int) with _ | _
   ·rw [hb] at hst hne2
    have Hst := Lib.hid hst
    clear hst hb
    go_wp2_with (go_at_call 157; refine (owner_any p _ _ _ (by go_simp) (by omega) (by omega) (by omega) (by omega)).mono ?_; rintro e w' ⟨rfl, rfl⟩)
    go_roundw
    case rel => exact ⟨k + 1, _, t, by omega, by go_num, rfl, rfl, by rw [Hst.out]; simp⟩
    case measure => simp [intOf]; omega
   ·rw [hb, if_pos rfl] at hst
    rw [hb] at hne2
    have Hst := Lib.hid hst
    clear hst hb
    go_wp2_with (go_at_call 157; refine (owner_any p _ _ _ (by go_simp) (by omega) (by omega) (by omega) (by omega)).mono ?_; rintro e w' ⟨rfl, rfl⟩)
    go_region
    go_wp2_with (go_at_call 157; refine (owner_any p _ _ _ (by go_simp) (by omega) (by omega) (by omega) (by omega)).mono ?_; rintro e w' ⟨rfl, rfl⟩)
    go_roundw
    case rel => exact ⟨k + 1, _, t + v, by omega, by go_num, by go_num, rfl, by rw [Hst.out]⟩
    case measure => simp [intOf]; omega
  ·obtain rfl : k = n := by omega
   have e1 : L.take k = L := List.take_of_length_le (by rw [Hnn.out]; exact Nat.le_refl _)
   have e2 : slamB p player xs L = (decide (0 < t) && decide (t = tot (halfL xs p.toNat (1 - player)))) := by unfold slamB; rw [Ht.out, e1]
   have HSide : Hid (∀ q, Calls Tryz.prog 133 #[.pointer (some ⟨b, 0, none⟩), .slice p1 pn1 pc1, .int .i64 (1 - player)] (w5.drewN q) fun e w' => e = .returned (.int .i64 (tot (halfL xs p.toNat (1 - player)))) ∧ w5.drewN q = w') := Lib.hid (fun q => l04Side_p p b p1 pc1 pn1 xs (1 - player) _ HX.out.1.2.1 H0.out.l1 ((H0.out.below HX.out.be).r1.drewN q) ⟨g1, g2⟩ HGn.out HPl.out G.out.q1 G.out.t1)
   clear e1 hRin
   generalize tot (halfL xs p.toNat (1 - player)) = T at *
   by_cases h0 : 0 < t
   ·have d0 : decide (0 < t) = true := by simpa using h0
    by_cases h1 : t = T
    ·have d1 : (t == T) = true := by simpa using h1
     rw [decide_eq_true h0, decide_eq_true h1] at e2
     have HE2 := Lib.hid e2
     clear h1 e2
     go_wp2_with fail
     refine (HSide.out _).mono ?_
     rintro e w9 ⟨rfl, rfl⟩
     go_wp2_with fail
     go_ret
     exact ⟨by rw [HE2.out]; rfl, (HX.out.dn _).be⟩
    ·have d1 : (t == T) = false := by simpa using h1
     rw [decide_eq_false h1, Bool.and_false] at e2
     have HE2 := Lib.hid e2
     clear h1 e2
     go_wp2_with fail
     refine (HSide.out _).mono ?_
     rintro e w9 ⟨rfl, rfl⟩
     go_wp2_with fail
     go_ret
     exact ⟨by rw [HE2.out]; rfl, (HX.out.dn _).be⟩
   ·have d0 : decide (0 < t) = false := by simpa using h0
    rw [decide_eq_false h0, Bool.false_and] at e2
    have HE2 := Lib.hid e2
    clear e2
    go_wp2_with fail
    go_ret
    exact ⟨by rw [HE2.out]; rfl, (HX.out.dn _).be⟩
theorem l06Pits_any (p s c l : Int) (st sk re fe ag : Bool) (player : Int) (p1 p2 : Option Addr) (pn1 pc1 pn2 pc2 : Nat) (pp pq : Int) (xs ys : List Int) (b d : Nat) (w : World) (hr : RuAt w b p s c l st sk re fe ag) (hs : SoAt w d p1 p2 pn1 pc1 pn2 pc2 pp pq) (h : PosR w p1 p2 pn1 pn2 xs ys) (g : Good p s c l st sk re fe ag player pn1 pn2 pp xs ys) :
  Calls Tryz.prog 158 #[.pointer (some ⟨b, 0, none⟩), .pointer (some ⟨d, 0, none⟩), .int .i64 player] w (OwnP (pitsF c l p player pp xs) (pitsF c l p player pp xs).length w) := by
 have HX := Lib.hid (show L6N w b d p s c l st sk re fe ag p1 p2 pn1 pc1 pn2 pc2 pp pq w from ⟨hr, hs, Below.refl _ _⟩)
 have HRaw : Hid (∀ u, L6N w b d p s c l st sk re fe ag p1 p2 pn1 pc1 pn2 pc2 pp pq u → Calls Tryz.prog 156 #[.pointer (some ⟨b, 0, none⟩), .pointer (some ⟨d, 0, none⟩), .int .i64 player] u (OwnP (rawF c p player pp xs) (rawF c p player pp xs).length u)) := Lib.hid (fun u hu => l06Raw_any p s c l st sk re fe ag player p1 p2 pn1 pc1 pn2 pc2 pp pq xs ys b d u hu.1 hu.2.1 (h.below hu.be) g)
 have HSl : Hid (∀ u, L6N w b d p s c l st sk re fe ag p1 p2 pn1 pc1 pn2 pc2 pp pq u → Calls Tryz.prog 137 #[.pointer (some ⟨b, 0, none⟩), .pointer (some ⟨d, 0, none⟩), .int .i64 player] u fun e w' => e = .returned (.bool (slamF c p player pp xs)) ∧ Below u.heap.size u w') := Lib.hid (fun u hu => l06Slam_any p s c l st sk re fe ag player p1 p2 pn1 pc1 pn2 pc2 pp pq xs ys b d u hu.1 hu.2.1 (h.below hu.be) g)
 obtain ⟨hb, r0, r1, r2, r3, r4, r5, r6, r7, r8⟩ := hr
 obtain ⟨hd, s0, s1, s2, s3⟩ := hs
 have hpf : pitsF c l p player pp xs = if decide (l = 2) && slamF c p player pp xs then [] else rawF c p player pp xs := rfl
 rw [hpf]
 generalize rawF c p player pp xs = R at *
 generalize slamF c p player pp xs = sl at *
 clear h g hpf
 by_cases hl : l = 2
 ·have t1 : (l == 2) = true := by simpa using hl
  rw [decide_eq_true hl]
  clear hl
  cases sl
  ·go_enter Tryz.func158, Tryz.ntmps158
   go_wp2_with fail
   refine (HSl.out _ HX.out).mono ?_
   rintro e w5 ⟨rfl, hb5⟩
   have HX := Lib.hid (HX.out.below hb5)
   clear hb5
   go_wp2_with fail
   refine (HRaw.out _ HX.out).mono ?_
   rintro e w6 ⟨v6, rfl, hown, hb6⟩
   have HO := Lib.hid (own_lower hown HX.out.be.size)
   have HX := Lib.hid (HX.out.below hb6)
   clear hown hb6
   go_wp2_with fail
   go_ret
   exact ⟨_, rfl, HO.out, HX.out.be⟩
  ·go_enter Tryz.func158, Tryz.ntmps158
   go_wp2_with fail
   refine (HSl.out _ HX.out).mono ?_
   rintro e w5 ⟨rfl, hb5⟩
   have HX := Lib.hid (HX.out.below hb5)
   clear hb5
   go_wp2_with fail
   go_ret
   exact ⟨_, rfl, World.ownsRow_made w5 #[] 0 HX.out.be.size (by decide) rfl, (HX.out.below (al1 _ _)).be⟩
 ·have t1 : (l == 2) = false := by simpa using hl
  rw [decide_eq_false hl]
  clear hl
  go_enter Tryz.func158, Tryz.ntmps158
  go_wp2_with fail
  refine (HRaw.out _ HX.out).mono ?_
  rintro e w6 ⟨v6, rfl, hown, hb6⟩
  have HO := Lib.hid (own_lower hown HX.out.be.size)
  have HX := Lib.hid (HX.out.below hb6)
  clear hown hb6
  go_wp2_with fail
  go_ret
  exact ⟨_, rfl, HO.out, HX.out.be⟩
/- RefTk -/
theorem L6N.but {w u v : World} {b d : Nat} {p s c l : Int} {st sk re fe ag : Bool} {p1 p2 : Option Addr} {pn1 pc1 pn2 pc2 : Nat} {pp pq : Int} {z : Nat} (h : L6N w b d p s c l st sk re fe ag p1 p2 pn1 pc1 pn2 pc2 pp pq u) (k : But z u v) (hb : b ≠ z) (hd : d ≠ z) (hz : w.heap.size ≤ z) : L6N w b d p s c l st sk re fe ag p1 p2 pn1 pc1 pn2 pc2 pp pq v :=
 ⟨h.1.but k hb, h.2.1.but k hd, But.lift h.2.2 k hz⟩
theorem L6N.set4 {w u : World} {b d : Nat} {p s c l : Int} {st sk re fe ag : Bool} {p1 p2 : Option Addr} {pn1 pc1 pn2 pc2 : Nat} {pp pq : Int} {z : Nat} (h : L6N w b d p s c l st sk re fe ag p1 p2 pn1 pc1 pn2 pc2 pp pq u) (hb : b ≠ z) (hd : d ≠ z) (hz : w.heap.size ≤ z) (x y t q : Value) : L6N w b d p s c l st sk re fe ag p1 p2 pn1 pc1 pn2 pc2 pp pq ((((u.setCell ⟨z, 0, none⟩ x).setCell ⟨z, 1, none⟩ y).setCell ⟨z, 2, none⟩ t).setCell ⟨z, 3, none⟩ q) := h.but (but4 z u x y t q) hb hd hz
structure TrF (w : World) (b d : Nat) (p s c l : Int) (st sk re fe ag : Bool) (p1 p2 : Option Addr) (pn1 pc1 pn2 pc2 : Nat) (pp pq : Int) (s0 b5 c5 b6 c6 : Nat) (xs ys : List Int) (u : World) : Prop where
 cp : L6N w b d p s c l st sk re fe ag p1 p2 pn1 pc1 pn2 pc2 pp pq u
 hb : b < w.heap.size
 hd : d < w.heap.size
 z : Z4 u w.heap.size
 so : SoS u (w.heap.size + 1) s0 b5 c5 b6 c6 pn1 pp pq xs ys
 l5 : b5 < u.heap.size
 l6 : b6 < u.heap.size
 k5 : pn1 ≤ c5
 k6 : 2 ≤ c6
 ms : w.heap.size + 1 ≤ s0
section
variable {w u v : World} {b d : Nat} {p s c l : Int} {st sk re fe ag : Bool} {p1 p2 : Option Addr} {pn1 pc1 pn2 pc2 : Nat} {pp pq : Int} {s0 b5 c5 b6 c6 : Nat} {xs ys : List Int}
theorem TrF.below (h : TrF w b d p s c l st sk re fe ag p1 p2 pn1 pc1 pn2 pc2 pp pq s0 b5 c5 b6 c6 xs ys u) (k : Below u.heap.size u v) : TrF w b d p s c l st sk re fe ag p1 p2 pn1 pc1 pn2 pc2 pp pq s0 b5 c5 b6 c6 xs ys v :=
 ⟨h.cp.below k, h.hb, h.hd, h.z.below k, h.so.below k, Nat.lt_of_lt_of_le h.l5 k.size, Nat.lt_of_lt_of_le h.l6 k.size, h.k5, h.k6, h.ms⟩
theorem TrF.setX (h : TrF w b d p s c l st sk re fe ag p1 p2 pn1 pc1 pn2 pc2 pp pq s0 b5 c5 b6 c6 xs ys u) {i : Nat} (hi : i < pn1) (x : Int) : TrF w b d p s c l st sk re fe ag p1 p2 pn1 pc1 pn2 pc2 pp pq s0 b5 c5 b6 c6 (xs.set i x) ys (u.setCell ⟨b5, i, none⟩ (.int .i64 x)) :=
 have hb : But b5 u (u.setCell ⟨b5, i, none⟩ (.int .i64 x)) := (But.refl b5 u).setCell rfl _
 have h5 : w.heap.size + 1 ≤ b5 := h.so.o1.new
 have h1 := h.hb
 have h2 := h.hd
 ⟨h.cp.but hb (by omega) (by omega) (by omega), h.hb, h.hd, h.z.but hb (by omega), h.so.setX hi x, by simpa using h.l5, by simpa using h.l6, h.k5, h.k6, h.ms⟩
theorem TrF.setY (h : TrF w b d p s c l st sk re fe ag p1 p2 pn1 pc1 pn2 pc2 pp pq s0 b5 c5 b6 c6 xs ys u) {i : Nat} (hi : i < 2) (x : Int) : TrF w b d p s c l st sk re fe ag p1 p2 pn1 pc1 pn2 pc2 pp pq s0 b5 c5 b6 c6 xs (ys.set i x) (u.setCell ⟨b6, i, none⟩ (.int .i64 x)) :=
 have hb : But b6 u (u.setCell ⟨b6, i, none⟩ (.int .i64 x)) := (But.refl b6 u).setCell rfl _
 have h6 : w.heap.size + 1 ≤ b6 := h.so.o2.new
 have h1 := h.hb
 have h2 := h.hd
 ⟨h.cp.but hb (by omega) (by omega) (by omega), h.hb, h.hd, h.z.but hb (by omega), h.so.setY hi x, by simpa using h.l5, by simpa using h.l6, h.k5, h.k6, h.ms⟩
theorem tr_fin {B1 B2 : Nat} (hc : L6N w b d p s c l st sk re fe ag p1 p2 pn1 pc1 2 pc2 pp pq u) (hb : b < w.heap.size) (hd : d < w.heap.size) (hz : Z4 u w.heap.size) (hY : Z4 u s0) (hf : ∀ o, u.frozen? ⟨s0, o, none⟩ = false)
  (o1 : OutN u B1 (some ⟨b5, 0, none⟩) b5 xs) (o2 : OutN u B2 (some ⟨b6, 0, none⟩) b6 ys) (l1 : xs.length = pn1) (l2 : ys.length = 2) (ne : b5 ≠ b6) (n5 : b5 ≠ s0) (n6 : b6 ≠ s0) (l5 : b5 < u.heap.size) (l6 : b6 < u.heap.size) (ms : w.heap.size + 1 ≤ s0) (hB1 : w.heap.size + 1 ≤ B1) (hB2 : w.heap.size + 1 ≤ B2) (k5 : pn1 ≤ c5) (k6 : 2 ≤ c6) :
  TrF w b d p s c l st sk re fe ag p1 p2 pn1 pc1 2 pc2 pp pq s0 b5 c5 b6 c6 xs ys ((((u.setCell ⟨s0, 0, none⟩ (.slice (some ⟨b5, 0, none⟩) pn1 c5)).setCell ⟨s0, 1, none⟩ (.slice (some ⟨b6, 0, none⟩) 2 c6)).setCell ⟨s0, 2, none⟩ (.int .i64 pp)).setCell ⟨s0, 3, none⟩ (.int .i64 pq)) := by
 have hbt := but4 s0 u (.slice (some ⟨b5, 0, none⟩) pn1 c5) (.slice (some ⟨b6, 0, none⟩) 2 c6) (.int .i64 pp) (.int .i64 pq)
 obtain ⟨yl, y0, y1, y2, y3, f0, f1, f2, f3⟩ := hY
 exact ⟨hc.but hbt (by omega) (by omega) (by omega), hb, hd, hz.but hbt (by omega), ⟨⟨by simpa using yl, by go_simp, by go_simp, by go_simp, by go_simp⟩, fun o => by have := hf o; go_simp, (o1.but hbt n5).lower hB1, (o2.but hbt n6).lower hB2, l1, l2, fun e => n5 e.symm, fun e => n6 e.symm, ne⟩, by simpa using l5, by simpa using l6, k5, k6, ms⟩
theorem tr_fin2 {B1 B2 : Nat} (T : TypeId) (hc : L6N w b d p s c l st sk re fe ag p1 p2 pn1 pc1 2 pc2 pp pq u) (hb : b < w.heap.size) (hd : d < w.heap.size) (hz : Z4 u w.heap.size)
  (o1 : OutN u B1 (some ⟨b5, 0, none⟩) b5 xs) (o2 : OutN u B2 (some ⟨b6, 0, none⟩) b6 ys) (l1 : xs.length = pn1) (l2 : ys.length = 2) (ne : b5 ≠ b6) (l5 : b5 < u.heap.size) (l6 : b6 < u.heap.size) (hB1 : w.heap.size + 1 ≤ B1) (hB2 : w.heap.size + 1 ≤ B2) (k5 : pn1 ≤ c5) (k6 : 2 ≤ c6) :
  TrF w b d p s c l st sk re fe ag p1 p2 pn1 pc1 2 pc2 pp pq u.heap.size b5 c5 b6 c6 xs ys (u.alloc (.cells #[.slice (some ⟨b5, 0, none⟩) pn1 c5, .slice (some ⟨b6, 0, none⟩) 2 c6, .int .i64 pp, .int .i64 pq] T)) :=
 ⟨hc.below (al1 _ _), hb, hd, hz.below (al1 _ _), ⟨so_new _ _ _ _ _ _ _ _ u T, fun o => by go_simp, (o1.below (al1 _ _)).lower hB1, (o2.below (al1 _ _)).lower hB2, l1, l2, by omega, by omega, ne⟩, by simp; omega, by simp; omega, k5, k6, hz.lt⟩
end
theorem l06Take_any (p s c l : Int) (st sk re fe ag : Bool) (player : Int) (p1 p2 : Option Addr) (pn1 pc1 pc2 : Nat) (pp pq : Int) (xs ys : List Int) (b d : Nat) (w : World) (hr : RuAt w b p s c l st sk re fe ag) (hs : SoAt w d p1 p2 pn1 pc1 2 pc2 pp pq) (h : PosR w p1 p2 pn1 2 xs ys) (g : Good p s c l st sk re fe ag player pn1 2 pp xs ys) :
  Calls Tryz.prog 138 #[.pointer (some ⟨b, 0, none⟩), .pointer (some ⟨d, 0, none⟩), .int .i64 player] w (SoP pn1 2 pp pq (tkX c l p player pp xs) (tkY c l p player pp xs ys) w) := by
 obtain ⟨P, rfl⟩ : ∃ P : Nat, player = (P : Int) := ⟨player.toNat, by have := g.pl; omega⟩
 have hP2 : P < 2 := by have := g.pl; omega
 have HND := Lib.hid (pits_nodup c l p (P : Int) pp xs)
 have H := Lib.hid h
 have G := Lib.hid g
 have hle1 : pn1 ≤ 1000000000000 := by have := h.r1.1; rwa [h.l1] at this
 have hle2 : 2 ≤ 1000000000000 := by omega
 have HN1 : Hid (xs ≠ []) := Lib.hid (by intro e; have := h.l1; have := g.n1; have := g.p2.1; subst e; simp at *; omega)
 have HN2 : Hid (ys ≠ []) := Lib.hid (by intro e; have := h.l2; subst e; simp at this)
 have hbw := hr.1
 have hdw := hs.1
 have HP := Lib.hid (L6N.below (show L6N w b d p s c l st sk re fe ag p1 p2 pn1 pc1 2 pc2 pp pq w from ⟨hr, hs, Below.refl _ _⟩) (al1 w (.cells #[.slice none 0 0, .slice none 0 0, .int .i64 0, .int .i64 0] 121)))
 have HZ := Lib.hid (z4_new w 121)
 have HPits : Hid (∀ u, L6N w b d p s c l st sk re fe ag p1 p2 pn1 pc1 2 pc2 pp pq u → Calls Tryz.prog 158 #[.pointer (some ⟨b, 0, none⟩), .pointer (some ⟨d, 0, none⟩), .int .i64 (P : Int)] u (OwnP (pitsF c l p (P : Int) pp xs) (pitsF c l p (P : Int) pp xs).length u)) := Lib.hid (fun u hu => l06Pits_any p s c l st sk re fe ag (P : Int) p1 p2 pn1 pc1 2 pc2 pp pq xs ys b d u hu.1 hu.2.1 (h.below hu.2.2) g)
 have HLp : Hid ((pitsF c l p (P : Int) pp xs).length ≤ 1000) := Lib.hid (by have := pits_len (cp := c) (sl := l) (pl := (P : Int)) (xs := xs) g.p2.2 g.p2.1 g.l2; omega)
 have HPin : Hid (∀ k ∈ pitsF c l p (P : Int) pp xs, 0 ≤ k ∧ k < (pn1 : Int)) := Lib.hid (fun k hk => by have := pits_in g.l2 k hk; have := g.n1; omega)
 rw [show tkX c l p (P : Int) pp xs = zeroAt xs (pitsF c l p (P : Int) pp xs) from rfl, show tkY c l p (P : Int) pp xs ys = ys.set P (ys.getD P 0 + sumAt xs (pitsF c l p (P : Int) pp xs)) from rfl]
 generalize pitsF c l p (P : Int) pp xs = L at *
 obtain ⟨TX, hTX⟩ : ∃ X, zeroAt xs L = X := ⟨_, rfl⟩
 obtain ⟨TY, hTY⟩ : ∃ Y, ys.set P (ys.getD P 0 + sumAt xs L) = Y := ⟨_, rfl⟩
 rw [hTX, hTY]
 have HTX := Lib.hid hTX
 have HTY := Lib.hid hTY
 clear h g hTX hTY hr hs
 go_enter Tryz.func138, Tryz.ntmps138
 go_wp2_with fail
 refine (HPits.out _ HP.out).mono ?_
 rintro e w5 ⟨v5, rfl, hown, hb5⟩
 have hz5 := HZ.out.lt
 have HP := Lib.hid (HP.out.below hb5)
 have HZ := Lib.hid (HZ.out.below hb5)
 obtain ⟨a5, cc5, rfl, -⟩ := own_slice hown rfl HLp.out
 have HO := Lib.hid hown
 clear hown hb5
 go_upto_region 3 with fail
 have HW : Hid (Below w.heap.size w w5) := Lib.hid HP.out.be
 have hwu : w.heap.size < w5.heap.size := HZ.out.lt
 have H := Lib.hid (H.out.below HW.out)
 have HB := Lib.hid (show OnW w5 w5 from Below.refl _ _)
 have HT : Hid (∀ u : World, L6N w b d p s c l st sk re fe ag p1 p2 pn1 pc1 2 pc2 pp pq u → OnW w5 u → (d < u.heap.size ∧ u.cell? ⟨d, 0, none⟩ = some (.slice p1 pn1 pc1) ∧ u.cell? ⟨d, 1, none⟩ = some (.slice p2 2 pc2) ∧ u.cell? ⟨d, 2, none⟩ = some (.int .i64 pp) ∧ u.cell? ⟨d, 3, none⟩ = some (.int .i64 pq)) ∧ Below w5.heap.size w5 u) := Lib.hid (fun u h k => ⟨h.2.1, k⟩)
 have HR5 : Hid (RowN w5 a5 L) := Lib.hid (by
  obtain ⟨_, _, e5, hr5⟩ := own_slice HO.out rfl HLp.out
  cases e5
  exact hr5)
 generalize hn : L.length = n at *
 have Hn := Lib.hid hn
 go_cut [8] (fun s8 wx => ∃ s0 b5 c5 b6 c6 : Nat, s8 = .pointer (some ⟨s0, 0, none⟩) ∧ TrF w b d p s c l st sk re fe ag p1 p2 pn1 pc1 2 pc2 pp pq s0 b5 c5 b6 c6 xs ys wx ∧ (w5.heap.size ≤ b5 ∧ w5.heap.size ≤ b6) ∧ Below w5.heap.size w5 wx)
 case first =>
  go_region_held3 (fun u => (d < u.heap.size ∧ u.cell? ⟨d, 0, none⟩ = some (.slice p1 pn1 pc1) ∧ u.cell? ⟨d, 1, none⟩ = some (.slice p2 2 pc2) ∧ u.cell? ⟨d, 2, none⟩ = some (.int .i64 pp) ∧ u.cell? ⟨d, 3, none⟩ = some (.int .i64 pq)) ∧ Below w5.heap.size w5 u) (first | with_reducible exact HT.out _ HP.out HB.out | with_reducible exact HT.out _ HP.out.drew HB.out.drew | with_reducible exact HT.out _ (HP.out.below (al1 _ _)) (HB.out.below (al1 _ _)) | with_reducible exact HT.out _ (HP.out.drew.below (al1 _ _)) (HB.out.drew.below (al1 _ _)) | with_reducible exact HT.out _ (HP.out.below (al1 _ _)).drew (HB.out.below (al1 _ _)).drew | with_reducible exact HT.out _ (HP.out.set4 (by omega) (by omega) (by omega) _ _ _ _) (HB.out.set4 (by omega) _ _ _ _) | with_reducible exact HT.out _ ((HP.out.below (al1 _ _)).set4 (by omega) (by omega) (by omega) _ _ _ _) ((HB.out.below (al1 _ _)).set4 (by omega) _ _ _ _))
   (first
   | (go_at_call 69; (with_reducible refine (l00Own_any p1 pc1 pn1 xs _ H.out.l1 ?_ HN1.out).mono ?_); (first | with_reducible exact H.out.r1.below (HB.out).bel | with_reducible exact H.out.r1.below (HB.out.drew).bel | with_reducible exact H.out.r1.below (HB.out.below (al1 _ _)).bel | with_reducible exact H.out.r1.below (HB.out.drew.below (al1 _ _)).bel | with_reducible exact H.out.r1.below ((HB.out.below (al1 _ _)).drew).bel); rintro e w7 ⟨v1, rfl, hown, hb5⟩; (obtain ⟨c5, b5, rfl, o5, hlt5, hc5⟩ := outN_own hown H.out.l1 hle1 HN1.out); have O1 := Lib.hid o5; have nb1 := o5.new; (first | have HY := Lib.hid ((z4_new w5 121).drew.below hb5) | have HY := Lib.hid ((z4_new w5.drew 121).below hb5) | have HY := Lib.hid ((z4_new w5 121).below hb5) | skip); (first | have HG := Lib.hid ((nf_new w5 _ 121).drew.below hb5) | have HG := Lib.hid ((nf_new w5.drew _ 121).below hb5) | have HG := Lib.hid ((nf_new w5 _ 121).below hb5) | skip); (first | have HP := Lib.hid (HP.out.below hb5) | have HP := Lib.hid (HP.out.drew.below hb5) | have HP := Lib.hid ((HP.out.below (al1 _ _)).below hb5) | have HP := Lib.hid ((HP.out.below (al1 _ _)).drew.below hb5)); (first | have HZ := Lib.hid (HZ.out.below hb5) | have HZ := Lib.hid (HZ.out.drew.below hb5) | have HZ := Lib.hid ((HZ.out.below (al1 _ _)).below hb5) | have HZ := Lib.hid ((HZ.out.below (al1 _ _)).drew.below hb5)); (first | have HB := Lib.hid (HB.out.below hb5) | have HB := Lib.hid (HB.out.drew.below hb5) | have HB := Lib.hid ((HB.out.below (al1 _ _)).below hb5) | have HB := Lib.hid ((HB.out.below (al1 _ _)).drew.below hb5)); have nz5 := HZ.out.lt; have nb5 := HB.out.size; clear hown hb5 o5)
   | (go_at_call 69; (with_reducible refine (l00Own_any p2 pc2 2 ys _ H.out.l2 ?_ HN2.out).mono ?_); (first | with_reducible exact H.out.r2.below (HB.out).bel | with_reducible exact H.out.r2.below (HB.out.drew).bel | with_reducible exact H.out.r2.below (HB.out.below (al1 _ _)).bel | with_reducible exact H.out.r2.below (HB.out.drew.below (al1 _ _)).bel | with_reducible exact H.out.r2.below ((HB.out.below (al1 _ _)).drew).bel); rintro e w6 ⟨v2, rfl, hown, hb6⟩; (obtain ⟨c6, b6, rfl, o6, hlt6, hc6⟩ := outN_own hown H.out.l2 hle2 HN2.out); have O2 := Lib.hid o6; have nb2 := o6.new; (first | have HY := Lib.hid (HY.out.below hb6) | have HY := Lib.hid (HY.out.drew.below hb6) | have HY := Lib.hid ((z4_new w7 121).below hb6) | have HY := Lib.hid ((z4_new w7 121).drew.below hb6) | have HY := Lib.hid ((z4_new w7.drew 121).below hb6) | skip); (first | have HG := Lib.hid (HG.out.below hb6) | have HG := Lib.hid (HG.out.drew.below hb6) | have HG := Lib.hid ((nf_new w7 _ 121).below hb6) | have HG := Lib.hid ((nf_new w7 _ 121).drew.below hb6) | have HG := Lib.hid ((nf_new w7.drew _ 121).below hb6) | skip); (try obtain ⟨yz, y0, y1, y2, y3, k0, k1, k2, k3⟩ := HY.out); (first | have HP := Lib.hid (HP.out.below hb6) | have HP := Lib.hid (HP.out.drew.below hb6) | have HP := Lib.hid ((HP.out.below (al1 _ _)).below hb6) | have HP := Lib.hid ((HP.out.below (al1 _ _)).drew.below hb6)); (first | have HZ := Lib.hid (HZ.out.below hb6) | have HZ := Lib.hid (HZ.out.drew.below hb6) | have HZ := Lib.hid ((HZ.out.below (al1 _ _)).below hb6) | have HZ := Lib.hid ((HZ.out.below (al1 _ _)).drew.below hb6)); (first | have HB := Lib.hid (HB.out.below hb6) | have HB := Lib.hid (HB.out.drew.below hb6) | have HB := Lib.hid ((HB.out.below (al1 _ _)).below hb6) | have HB := Lib.hid ((HB.out.below (al1 _ _)).drew.below hb6)); (first | have O1 := Lib.hid (O1.out.below hb6) | have O1 := Lib.hid (O1.out.drew.below hb6) | have O1 := Lib.hid ((O1.out.below (al1 _ _)).below hb6) | have O1 := Lib.hid ((O1.out.below (al1 _ _)).drew.below hb6)); have nz6 := HZ.out.lt; have nb6 := HB.out.size; clear hown hb6 o6))
  all_goals (try simp at nb1)
  all_goals (try simp at nb2)
  all_goals go_wp2_with fail
  all_goals go_meet
  all_goals have hl5 := (O1.out.free HN1.out).1
  all_goals have hb5' := HB.out.size
  all_goals first
   | exact ⟨_, _, _, _, _, rfl, tr_fin2 121 HP.out hbw hdw HZ.out O1.out O2.out H.out.l1 H.out.l2 (by omega) hl5 hlt6 (by first | omega | (simp; done) | (simp; omega)) (by first | omega | (simp; done) | (simp; omega)) hc5 hc6, ⟨by omega, by omega⟩, OnW.below HB.out (al1 _ _)⟩
   | exact ⟨_, _, _, _, _, rfl, tr_fin HP.out hbw hdw HZ.out HY.out HG.out.2 O1.out O2.out H.out.l1 H.out.l2 (by omega) (by omega) (by omega) hl5 hlt6 (by first | omega | (simp; done) | (simp; omega)) (by first | omega | (simp; done) | (simp; omega)) (by first | omega | (simp; done) | (simp; omega)) hc5 hc6, ⟨by omega, by omega⟩, OnW.set4 HB.out (by omega) _ _ _ _⟩
 case rest =>
  obtain ⟨s0, b5, c5, b6, c6, rfl, hF, hL5, hbx⟩ := hcut
  have HF := Lib.hid hF
  have HBx := Lib.hid hbx
  clear hF hbx HB HT HP HZ
  go_upto_region 3 with fail
  have hy0 := posB_getD G.out.q2 P
  have hy1 : ys.getD P 0 ≤ 96 := by have := getD_le G.out.q2 P; have := posB_tot G.out.q1; have := G.out.q3; omega
  have hsb := sumAt_bd G.out.q1 G.out.t1 L
  have hn16 : n ≤ 1000 := HLp.out
  have hly : P < ys.length := by rw [H.out.l2]; exact hP2
  obtain ⟨hs0, hs1⟩ : 0 ≤ sumAt xs L ∧ sumAt xs L ≤ 96 * 1000 := by have := Hn.out; omega
  have HF2 := Lib.hid (HF.out.below (Below.refl _ _).drew)
  have HB2 := Lib.hid (show OnW w5 wc.drew from HBx.out.drew)
  have hr5 : RowN wc.drew a5 L := RowN.below HR5.out HB2.out
  have HSum : Hid (Calls Tryz.prog 159 #[.pointer (some ⟨d, 0, none⟩), .slice a5 n cc5] wc.drew (Still (.int .i64 (sumAt xs L)) wc.drew)) := Lib.hid (l06Sum_still p1 p2 pn1 pc1 2 pc2 pp pq xs ys L d a5 cc5 n _ HF2.out.cp.2.1 (H.out.below HB2.out) G.out.q1 G.out.t1 HPin.out Hn.out HLp.out hr5)
  obtain ⟨y1, y2, y3⟩ := HF.out.so.y hP2
  obtain ⟨_, t0, t1, t2, t3⟩ := HF.out.so.so
  have z0 : (0 : Int) ≤ (P : Int) := by omega
  have z1 : (P : Int) < 2 := by omega
  generalize hS : sumAt xs L = S at *
  generalize hY : ys.getD P 0 = yv at *
  have HSY := Lib.hid (And.intro hS hY)
  have hwr : IntKind.i64.wrap (yv + S) = yv + S := IntWalk.i64_in _ ⟨by omega, by omega⟩
  clear hS hY hr5 hsb
  go_region_law ((go_simp; go_at_call 159; refine HSum.out.mono ?_; rintro e w8 ⟨rfl, q8, rfl⟩))
  all_goals
   have HI0 := Lib.hid (show TrF w b d p s c l st sk re fe ag p1 p2 pn1 pc1 2 pc2 pp pq s0 b5 c5 b6 c6 (zeroAt xs (L.take 0)) TY _ from HTY.out ▸ (HF.out.below (below_dn (Below.refl _ _) (1 + q8))).setY hP2 (yv + S))
   have HB0 := Lib.hid (show OnW w5 _ from (below_dn HBx.out (1 + q8)).setCell (p := ⟨b6, P, none⟩) hL5.2 (.int .i64 (yv + S)))
   clear y1 y2 y3 t0 t1 t2 t3 HF HB2 HSum HBx
   generalize (wc.drewN (1 + q8)).setCell ⟨b6, P, none⟩ (.int .i64 (yv + S)) = W8 at *
   go_wp2_with fail
   go_loopw [9] (fun i wr => ∃ (k : Nat), k ≤ n ∧ i = .int .i64 k ∧ TrF w b d p s c l st sk re fe ag p1 p2 pn1 pc1 2 pc2 pp pq s0 b5 c5 b6 c6 (zeroAt xs (L.take k)) TY wr ∧ OnW w5 wr) (fun i _ => n - (intOf i).toNat)
   case atStart => exact ⟨0, Nat.zero_le _, rfl, HI0.out, HB0.out⟩
   case round =>
    obtain ⟨k, hk, rfl, hI, hB⟩ := hrel
    have HI := Lib.hid hI
    have HB := Lib.hid hB
    clear hI hB HI0 HB0
    by_cases hlt : k < n
    ·obtain ⟨q, hq⟩ : ∃ q, L[k]? = some q := ⟨L[k]'(by rw [Hn.out]; exact hlt), List.getElem?_eq_getElem _⟩
     obtain ⟨q0, q1⟩ := HPin.out q (List.mem_of_getElem? hq)
     obtain ⟨Q, rfl⟩ : ∃ Q : Nat, q = (Q : Int) := ⟨q.toNat, by omega⟩
     have hne : L ≠ [] := by intro e; subst e; cases hq
     have HQn : Hid (Q < pn1) := Lib.hid (by omega)
     have hz : zeroAt xs (L.take (k + 1)) = (zeroAt xs (L.take k)).set Q 0 := by rw [take_next hq, zero_snoc]; rfl
     have HNew : Hid (∀ u, TrF w b d p s c l st sk re fe ag p1 p2 pn1 pc1 2 pc2 pp pq s0 b5 c5 b6 c6 ((zeroAt xs (L.take k)).set Q 0) TY u → TrF w b d p s c l st sk re fe ag p1 p2 pn1 pc1 2 pc2 pp pq s0 b5 c5 b6 c6 (zeroAt xs (L.take (k + 1))) TY u) := Lib.hid (fun u h => hz ▸ h)
     have HKn := Lib.hid hlt
     have k0 : (0 : Int) ≤ (k : Int) := by omega
     have k1 : (k : Int) < (n : Int) := by omega
     obtain ⟨ga, oa, hga, hgl, hca⟩ := (RowN.below HR5.out (show OnW w5 wr.drew from HB.out.drew)).2.resolve_left hne
     have ya := hca k _ hq
     subst hga
     clear hz hq hne hca hgl
     have HI2 := Lib.hid (HI.out.below (Below.refl _ _).drew)
     have HB2 := Lib.hid (show OnW w5 wr.drew from HB.out.drew)
     go_wp2_with fail
     obtain ⟨x1, x2, x3⟩ := HI2.out.so.x HQn.out
     obtain ⟨_, t0, t1, t2, t3⟩ := HI2.out.so.so
     go_still_tail 7, (by kernel_rfl)
     change wpList _ _ _ _ _ (World.drew wr)
     have HI3 := Lib.hid (HI2.out.setX HQn.out 0)
     have HB3 := Lib.hid (show OnW w5 _ from HB2.out.setCell (p := ⟨b5, Q, none⟩) hL5.1 (.int .i64 0))
     clear HI2 HB2 HI HB
     generalize wr.drew = wq at *
     go_wp2_with fail
     go_roundw
     case rel => exact ⟨k + 1, HKn.out, by go_num, HNew.out _ HI3.out, HB3.out⟩
     case measure => (have hkn := HKn.out; simp [intOf]; omega)
    ·obtain rfl : k = n := by omega
     rw [List.take_of_length_le (show L.length ≤ k from Nat.le_of_eq Hn.out), HTX.out] at HI
     have k0 : ¬ (k : Int) < (k : Int) := by omega
     obtain ⟨zl, z0, z1, z2, z3, f0, f1, f2, f3⟩ := HI.out.z
     obtain ⟨_, t0, t1, t2, t3⟩ := HI.out.so.so
     have ms := HI.out.ms
     have dd1 : s0 ≠ w.heap.size := by omega
     have dd2 : w.heap.size ≠ s0 := by omega
     go_wp2_with fail
     refine bodyPost_ret (v := .agg #[.slice (some ⟨b5, 0, none⟩) pn1 c5, .slice (some ⟨b6, 0, none⟩) 2 c6, .int .i64 pp, .int .i64 pq]) (by simp [results, Tryz.results138, go_sem, z0, z1, z2, z3]) rfl ?_
     have hbt := but4 w.heap.size wr (.slice (some ⟨b5, 0, none⟩) pn1 c5) (.slice (some ⟨b6, 0, none⟩) 2 c6) (.int .i64 pp) (.int .i64 pq)
     exact ⟨b5, c5, b6, c6, rfl, ⟨(HI.out.so.o1.but hbt (by have := HI.out.so.o1.new; omega)).lower (Nat.le_add_right _ 1), (HI.out.so.o2.but hbt (by have := HI.out.so.o2.new; omega)).lower (Nat.le_add_right _ 1), HI.out.so.d3, HI.out.so.l1, HI.out.so.l2⟩, by simpa using HI.out.l5, by simpa using HI.out.l6, HI.out.k5, HI.out.k6, OnW.set4 (show OnW w wr from HI.out.cp.2.2) (Nat.le_refl _) _ _ _ _⟩
/- Scope -/
open Go
section
variable {F : Fence} {n : Nat} {P : Program} {Q : Exit → Act → World → Prop} {a : Act} {w : World}
theorem stepR_scope {b : Frame} {k : List Item} {cs : List Frame} {c : Code} : step P (lone (b.atR a (.code (.scope c) :: k)) cs w) = .next (lone (b.atR a (.code c :: .inScope c :: k)) cs w) :=
 step_lone_go (by simp [stepG, stepG.exec, Frame.atR])
theorem stepR_inScope {b : Frame} {k : List Item} {cs : List Frame} {c : Code} : step P (lone (b.atR a (.inScope c :: k)) cs w) = .next (lone (b.atR a k) cs w) :=
 step_lone_go (by simp [stepG, stepG.exec, Frame.atR])
theorem wpIn_scope {c : Code} (h : c.wpIn F n P (Exit.noGoto Q) a w) : (Code.scope c).wpIn F n P Q a w := by
 intro b k cs hro hb hr
 have h0 : (lone (b.atR a (.code (.scope c) :: k)) cs w).fenced P F := fenced_calm hb hr rfl
 obtain ⟨e, a₁, w₁, hq, harr⟩ := h b (.inScope c :: k) cs hro hb hr
 cases e with
 | normal => exact ⟨.normal, a₁, w₁, hq, .head h0 stepR_scope (StepsIn.trans harr (.one (fenced_calm hb hr rfl) stepR_inScope))⟩
 | exit id =>
  have hx : exitTo id (.inScope c :: k) = exitTo id k := by simp [exitTo]
  exact ⟨.exit id, a₁, w₁, hq, fun k' hk => .head h0 stepR_scope (harr.1 k' (by rw [hx]; exact hk)),
   fun hr' hk => let ⟨k₁, h1, h2⟩ := harr.2 hr' (by rw [hx]; exact hk); ⟨k₁, h1, .head h0 stepR_scope h2⟩⟩
 | goto l => exact hq.elim
 | ret => exact ⟨_, a₁, w₁, hq, .of_steps (.one h0 stepR_scope) harr⟩
 | panic ch => exact ⟨_, a₁, w₁, hq, .of_steps (.one h0 stepR_scope) harr⟩
 | outgrown => exact ⟨_, a₁, w₁, hq, .of_steps (.one h0 stepR_scope) harr⟩
end
/- Stp5 -/
open Go.RowKit Go.Shelf
def Cfg.R (K : Cfg) : Rl := ⟨K.p, K.pl, K.st, K.sk, K.re⟩
theorem put_any (K : Cfg) (y ha la lp : Int) (xs ys : List Int) (W : World) (hpl : K.pl = 0 ∨ K.pl = 1) (h : SwS W K ha la lp xs ys) (h0 : 1 ≤ ha) (h1 : ha ≤ 96) (hy0 : -1 ≤ y) (hy1 : y < K.n1) (hn : K.n1 ≤ 1000)
  (hb : ∀ i, (0 ≤ xs.getD i 0 ∧ xs.getD i 0 ≤ 96) ∧ (0 ≤ ys.getD i 0 ∧ ys.getD i 0 ≤ 96)) :
  Calls Tryz.prog 177 #[.pointer (some ⟨K.b, 0, none⟩), .int .i64 y] W (PutP K y ha lp xs ys W) := by
 by_cases e : y = -1
 ·subst e
  rcases hpl with e | e
  ·exact putS0 K ha la lp xs ys W e h h0 h1 (hb 0).2.1 (hb 0).2.2
  ·exact putS1 K ha la lp xs ys W e h h0 h1 (hb 1).2.1 (hb 1).2.2
 ·obtain ⟨m, rfl⟩ : ∃ m : Nat, y = m := ⟨y.toNat, by omega⟩
  exact putP_any K m ha la lp xs ys W h (by omega) hn h0 h1 (hb m).1.1 (hb m).1.2
structure Stg where
 j : Nat
 xs : List Int
 ys : List Int
 f : Int
 path : List Int
def Stg.n (s : Stg) : Nat := cnt s.xs s.f
def Stg.next (R : Rl) (s : Stg) : Stg := ⟨s.j + 1, cx R s.xs s.f s.n, cy R s.ys s.f s.n, lst R s.xs s.f, s.path ++ lapP R s.f s.n⟩
structure Stg.Ok (R : Rl) (t : Int) (s : Stg) : Prop where
 lap : Lap R s.xs s.ys s.f t
 hi : s.j ≤ 100
def StW (A : World) (K : Cfg) (s : Stg) (i : Nat) (la : Int) : Prop := SwS A K ((s.n : Int) - i) la (s.j + 1) (cx K.R s.xs s.f i) (cy K.R s.ys s.f i)
structure Out (B : Nat) (K : Cfg) (A Z : World) : Prop where
 os : Z.os = A.os
 tape : Z.tape = A.tape
 output : Z.output = A.output
 size : A.heap.size ≤ Z.heap.size
 keep : ∀ k, k < B → k ≠ K.b → k ≠ K.g1 → k ≠ K.g2 → Z.heap[k]? = A.heap[k]?
theorem Out.of_low {B : Nat} {K : Cfg} {A Z : World} (h : Below B A Z) : Out B K A Z := ⟨h.os, h.tape, h.output, h.size, fun k hk _ _ _ => h.block k hk⟩
theorem Out.of_ch {B : Nat} {K : Cfg} {A Z : World} (h : Ch K A Z) (hB : B ≤ A.heap.size) : Out B K A Z := ⟨h.os, h.tape, h.output, h.size, fun k hk a b c => h.keep k (by omega) a b c⟩
theorem Above.of_ch {B : Nat} {K : Cfg} {A Z : World} (h : Ch K A Z) (hb : K.b < B ∧ K.g1 < B ∧ K.g2 < B) : Above B A Z := ⟨h.size, fun k hB hk => h.keep k hk (by omega) (by omega) (by omega)⟩
theorem low_put {B r : Nat} (A : World) (o : Obj) (hr : B ≤ r) : Below B A (A.putObj r o) := ⟨rfl, rfl, rfl, by simp, fun k hk => World.putObj_heap_other (by omega)⟩
theorem low_set {B : Nat} (A : World) {q : Addr} (hq : B ≤ q.block) (x : Value) : Below B A (A.setCell q x) := (Below.refl B A).setCell hq x
theorem low_below {B : Nat} {A Z : World} (h : Below A.heap.size A Z) (hB : B ≤ A.heap.size) : Below B A Z := h.mono hB
theorem SwS.low {B : Nat} {A Z : World} {K : Cfg} {ha la lp : Int} {xs ys : List Int} (h : SwS A K ha la lp xs ys) (k : Below B A Z) (hb : K.b < B ∧ K.g1 < B ∧ K.g2 < B) : SwS Z K ha la lp xs ys :=
 h.keep (k.block _ hb.1) (k.block _ hb.2.1) (k.block _ hb.2.2) k.size
def mk (D : Nat) : Deferred := { target := .collected D, args := #[] }
structure BxS (B0 kb l : Nat) (pv : Int) (ds : List Nat) (A : World) : Prop where
 lt : B0 + 3 ≤ A.heap.size
 cw : A.cell? ⟨B0, 0, none⟩ = some (.pointer (some ⟨kb, 0, none⟩))
 cv : A.cell? ⟨B0 + 1, 0, none⟩ = some (.func (.yield l) #[] #[])
 cp : A.cell? ⟨B0 + 1 + 1, 0, none⟩ = some (.int .i64 pv)
 fp : A.frozen? ⟨B0 + 1 + 1, 0, none⟩ = false
 ms : ∀ D ∈ ds, B0 ≤ D ∧ A.heap[D]? = some (.deferred (some []))
 nd : ds.Nodup
section
variable {B0 kb l : Nat} {pv : Int} {ds : List Nat} {A Z : World}
theorem BxS.above (h : BxS B0 kb l pv ds A) (k : Above B0 A Z) : BxS B0 kb l pv ds Z := by
 have hl := h.lt
 exact ⟨Nat.le_trans h.lt k.size, (k.cell (by omega) (by omega)).trans h.cw, (k.cell (by omega) (by omega)).trans h.cv, (k.cell (by omega) (by omega)).trans h.cp, (k.frozen (by omega) (by omega)).trans h.fp,
  fun D hD => ⟨(h.ms D hD).1, (k.keep D (h.ms D hD).1 (Array.getElem?_eq_some_iff.1 (h.ms D hD).2).1).trans (h.ms D hD).2⟩, h.nd⟩
theorem BxS.loop (h : BxS B0 kb l pv ds A) {L : Nat} {r r' : Loop} (hr : A.heap[L]? = some (.loop r)) : BxS B0 kb l pv ds (A.putObj L (.loop r')) := by
 have t := Tame.putObj (B := 0) (Nat.zero_le _) hr rfl (.loop r')
 exact ⟨by simpa using h.lt, (t.cell h.cw).1, (t.cell h.cv).1, (t.cell h.cp).1, (t.cell h.cp).2.trans h.fp,
  fun D hD => ⟨(h.ms D hD).1, (World.putObj_heap_other (fun e => by have := (h.ms D hD).2; rw [e, hr] at this; cases this)).trans (h.ms D hD).2⟩, h.nd⟩
theorem BxS.mark (h : BxS B0 kb l pv ds A) {D : Nat} (hD : A.heap[D]? = some (.deferred (some []))) (hB : B0 ≤ D) (hn : D ∉ ds) : BxS B0 kb l pv (D :: ds) A :=
 ⟨h.lt, h.cw, h.cv, h.cp, h.fp, fun E hE => by
  rcases List.mem_cons.1 hE with rfl | hE
  ·exact ⟨hB, hD⟩
  ·exact h.ms E hE, List.nodup_cons.2 ⟨hn, h.nd⟩⟩
theorem BxS.setP (h : BxS B0 kb l pv ds A) (v : Int) : BxS B0 kb l v ds (A.setCell ⟨B0 + 1 + 1, 0, none⟩ (.int .i64 v)) := by
 obtain ⟨lt, cw, cv, cp, fp, hm, nd⟩ := h
 have hc : ∃ o, A.heap[B0 + 1 + 1]? = some o ∧ o.isCells = true := by
  have hp := cp
  unfold World.cell? at hp
  rcases ho : A.heap[B0 + 1 + 1]? with _ | u
  ·simp [ho] at hp
  ·exact ⟨u, rfl, by cases u <;> simp_all [Obj.isCells]⟩
 obtain ⟨o, ho, hoc⟩ := hc
 exact ⟨by simpa using lt, by go_simp, by go_simp, by go_simp, by go_simp,
  fun D hD => ⟨(hm D hD).1, (Below.heap_setCell A ⟨B0 + 1 + 1, 0, none⟩ _ D (fun e => by
   have := (hm D hD).2
   simp only at e
   rw [e, ho] at this
   cases this
   cases hoc)).trans (hm D hD).2⟩, nd⟩
end
theorem RecAt.above {B L D : Nat} {A Z : World} {r : Loop} (h : RecAt A L D r) (k : Above B A Z) (hL : B ≤ L) (hD : B ≤ D) : RecAt Z L D r :=
 ⟨(k.keep L hL (Array.getElem?_eq_some_iff.1 h.1).1).trans h.1, (k.keep D hD (Array.getElem?_eq_some_iff.1 h.2).1).trans h.2⟩
theorem leaves_marks {F : Fence} {n : Nat} {P : Program} {fn : Func} {tmps : Array Value} {R : Ending → World → Prop} {B0 : Nat} (I : World → Prop)
  (hI : ∀ A D, I A → B0 ≤ D → A.heap[D]? = some (.deferred (some [])) → I (A.putObj D (.deferred none))) (hend : ∀ A, I A → LeavesInM F n P fn tmps R [] .returning A) :
  ∀ (ds : List Nat) (w : World), ds.Nodup → (∀ D ∈ ds, B0 ≤ D ∧ w.heap[D]? = some (.deferred (some []))) → I w → LeavesInM F n P fn tmps R (ds.map mk) .returning w
 | [], w, _, _, h => hend w h
 | d :: ds, w, hn, hm, h => by
  have hd := hm d (by simp)
  obtain ⟨h1, h2⟩ := List.nodup_cons.1 hn
  refine ⟨by simp, .inl ⟨d, _, rfl, run_takeDeferred hd.2, leaves_marks I hI hend ds _ h2 (fun D hD => ?_) (hI w d h hd.1 hd.2)⟩⟩
  exact ⟨(hm D (by simp [hD])).1, (World.putObj_heap_other (fun e => h1 (by rw [← e]; exact hD))).trans (hm D (by simp [hD])).2⟩
theorem rlb_agn {K : Cfg} {xs : List Int} {f : Int} {k : Nat} (hk : k + 1 = cnt xs f) : rlb K.re (cx K.R xs f k) (K.R.at f k) = agn K.R xs f := by
 unfold agn rlb lst
 rw [← hk, Nat.add_sub_cancel]
 rfl
structure LapJ (B0 : Nat) (K : Cfg) (l F : Nat) (ds : List Nat) (s : Stg) (JJ : Stg → Nat → World → Prop) (L D : Nat) (R : LoopState → Option Code → Loop) (k : Nat) (A : World) : Prop where
 jj : JJ s k A
 sw : ∃ la, StW A K s k la
 bx : BxS B0 K.b l F ds A
 rc : RecAt A L D (R .ready none)
 hj : 0 < k → s.j < 100
structure LapX (B0 : Nat) (K : Cfg) (l F : Nat) (ds : List Nat) (s : Stg) (JJ : Stg → Nat → World → Prop) (Jx : World → Prop) (L D : Nat) (R : LoopState → Option Code → Loop) (Z : World) : Prop where
 or : (Jx Z ∧ BxS B0 K.b l F ds Z ∧ RecAt Z L D (R .done (some .ret))) ∨
   (agn K.R s.xs s.f = false ∧ s.j < 100 ∧ JJ s s.n Z ∧ StW Z K s s.n (lst K.R s.xs s.f) ∧ BxS B0 K.b l F ds Z ∧ RecAt Z L D (R .done (some .ret))) ∨
   (agn K.R s.xs s.f = true ∧ s.j < 100 ∧ JJ s s.n Z ∧ StW Z K s s.n (lst K.R s.xs s.f) ∧ BxS B0 K.b l (lst K.R s.xs s.f) ds Z ∧ RecAt Z L D (R .done (some (.exit 1))))
/- Steps5 -/
open Go.RowKit Go.Shelf
attribute [local go_sem] Oper.semAt_some
def StepE (K : Cfg) (t : Int) (JJ : Stg → Nat → World → Prop) (Jx : World → Prop) (Z : World) : Prop :=
 (∃ s : Stg, s.Ok K.R t ∧ s.j < 100 ∧ agn K.R s.xs s.f = false ∧ JJ s s.n Z ∧ StW Z K s s.n (lst K.R s.xs s.f)) ∨ Jx Z
theorem steps_gives0 (n : Nat) (K : Cfg) (hpl : K.pl = 0) (hp : 2 ≤ K.p) (hp8 : K.p ≤ 8) (hn1 : (K.n1 : Int) = 2 * K.p) (t : Int) (l : Nat) (JJ : Stg → Nat → World → Prop) (Jx : World → Prop) (W : World) (s0 : Stg) (ha la : Int)
  (hS : SwS W K ha la 0 s0.xs s0.ys) (hfi : K.fi = s0.f) (hs0 : s0.Ok K.R t) (hj0 : s0.j = 0)
  (hJ : ∀ s i A Z, JJ s i A → Out W.heap.size K A Z → JJ s i Z)
  (hJx : ∀ A Z, Jx A → Below W.heap.size A Z → Jx Z)
  (hY : ∀ s i A, s.Ok K.R t → i < s.n → JJ s i A → StW A K s (i + 1) (K.R.at s.f i) → YieldAt Fence.wide (n - 1 - 1 - 1) Tryz.prog l #[.int .i64 (K.R.at s.f i)] A fun e Z =>
   (e = .returned (.bool true) ∧ s.j < 100 ∧ JJ s (i + 1) Z ∧ StW Z K s (i + 1) (K.R.at s.f i) ∧ Above W.heap.size A Z) ∨ (e = .returned (.bool false) ∧ Jx Z ∧ Above W.heap.size A Z))
  (hN : ∀ s A, s.Ok K.R t → s.j < 100 → agn K.R s.xs s.f = true → JJ s s.n A → JJ (s.next K.R) 0 A)
  (h0 : JJ s0 0 W) :
  CallsIn Fence.wide n Tryz.prog 161 #[.pointer (some ⟨K.b, 0, none⟩), .func (.yield l) #[] #[]] W fun e Z => (∃ v, e = .returned v) ∧ StepE K t JJ Jx Z := by
 have hlow : K.b < W.heap.size ∧ K.g1 < W.heap.size ∧ K.g2 < W.heap.size := ⟨hS.lt, hS.h1, hS.h2⟩
 have hb := hlow.1
 have q10 := hS.q10
 have HS := Lib.hid hS
 have HJ := Lib.hid hJ
 have HJx := Lib.hid hJx
 have HY := Lib.hid hY
 have HN := Lib.hid hN
 have H0 := Lib.hid h0
 have Hs0 := Lib.hid hs0
 have Hfi := Lib.hid hfi
 have Hj0 := Lib.hid hj0
 have Hpl := Lib.hid hpl
 have Hn1 := Lib.hid hn1
 have Hlow := Lib.hid hlow
 clear hS hJ hJx hY hN h0 hs0 hfi hj0 hpl hn1 hlow
 refine callsIn_of_wp_marks Tryz.func161 rfl trivial ?_ rfl
 simp only [Tryz.ntmps161, List.size_toArray, List.length_cons, List.length_nil, Nat.reduceAdd, Nat.reduceSub, Array.replicate_succ, Array.replicate_zero, List.push_toArray, List.append_toArray, List.nil_append, List.cons_append]
 gi_wp2_with fail
 refine wpIn_scope ?_
 gi_wp2_with fail
 refine wpIn_label ?_
 gi_wp2_with fail
 have hB0 : Below W.heap.size W (((W.alloc (.cells #[.pointer (some ⟨K.b, 0, none⟩)] 191)).alloc (.cells #[.func (.yield l) #[] #[]] 111)).alloc (.cells #[.int .i64 K.fi] 2)) := (((Below.refl _ _).alloc (Nat.le_refl _) _).alloc (by simp) _).alloc (by simp; omega) _
 have HX0 : Hid (BxS W.heap.size K.b l K.fi [] (((W.alloc (.cells #[.pointer (some ⟨K.b, 0, none⟩)] 191)).alloc (.cells #[.func (.yield l) #[] #[]] 111)).alloc (.cells #[.int .i64 K.fi] 2))) :=
  Lib.hid ⟨by simp, by go_simp, by go_simp, by go_simp, by go_simp, (fun D hD => by cases hD), List.nodup_nil⟩
 generalize ((W.alloc (.cells #[.pointer (some ⟨K.b, 0, none⟩)] 191)).alloc (.cells #[.func (.yield l) #[] #[]] 111)).alloc (.cells #[.int .i64 K.fi] 2) = W1 at *
 have HB0 := Lib.hid hB0
 clear hB0 q10
 refine wpIn_loop_ghost_k (fun g a A => ∃ (s : Stg) (ds : List Nat) (ha2 la2 : Int) (v5 v6 v11 v12 v13 v14 v15 v16 v17 v18 v19 v20 v21 v22 v23 v24 v25 v26 v27 v28 v29 v30 v31 v32 v33 v34 v35 v36 v37 v38 v39 v40 : Value), a = { tmps := #[.pointer (some ⟨K.b, 0, none⟩), .func (.yield l) #[] #[], .pointer (some ⟨W.heap.size, 0, none⟩), .pointer (some ⟨W.heap.size + 1, 0, none⟩), .pointer (some ⟨W.heap.size + 1 + 1, 0, none⟩), v5, v6, .pointer (some ⟨K.b, 0, none⟩), .pointer (some ⟨K.b, 0, none⟩), .pointer (some ⟨K.b, 10, none⟩), .int .i64 K.fi, v11, v12, v13, v14, v15, v16, v17, v18, v19, v20, v21, v22, v23, v24, v25, v26, v27, v28, v29, v30, v31, v32, v33, v34, v35, v36, v37, v38, v39, v40], defers := ds.map mk } ∧ g = 101 - s.j ∧ s.Ok K.R t ∧ JJ s 0 A ∧ SwS A K ha2 la2 s.j s.xs s.ys ∧ BxS W.heap.size K.b l s.f ds A)
  101 ⟨s0, [], ha, la, _, _, _, _, _, _, _, _, _, _, _, _, _, _, _, _, _, _, _, _, _, _, _, _, _, _, _, _, _, _, _, _, rfl, by rw [Hj0.out], Hs0.out, HJ.out _ _ _ _ H0.out (Out.of_low HB0.out), by rw [Hj0.out]; exact HS.out.low HB0.out Hlow.out, by rw [← Hfi.out]; exact HX0.out⟩ ?_
 rintro g a A ⟨s, ds, ha2, la2, v5, v6, v11, v12, v13, v14, v15, v16, v17, v18, v19, v20, v21, v22, v23, v24, v25, v26, v27, v28, v29, v30, v31, v32, v33, v34, v35, v36, v37, v38, v39, v40, rfl, rfl, hok, hjj, hsw, hbx⟩ J' K' hJ' hK'
 have HJ' := Lib.hid hJ'
 clear hJ' HX0 HS HB0 H0 Hs0
 obtain ⟨F, hF⟩ : ∃ F : Nat, s.f = F := ⟨s.f.toNat, by have := hok.lap.f0; omega⟩
 have hRp : K.R.p = K.p := rfl
 have hF1 : (F : Int) < 2 * K.p := by have := hok.lap.f1; rw [hRp, hF] at this; exact this
 have hFn : F < K.n1 := by have := Hn1.out; omega
 have hn1000 : K.n1 ≤ 1000 := by have := Hn1.out; omega
 have hR : K.R.Fit := ⟨hp, hp8, by show K.pl = 0 ∨ K.pl = 1; rw [Hpl.out]; simp⟩
 have hAt : ∀ k, plc K.p 0 K.st K.sk F k = K.R.at s.f k := fun k => by rw [← hF]; show _ = plc K.p K.pl K.st K.sk s.f k; rw [Hpl.out]
 have hnum := hok.lap.num
 have hnpos := hok.lap.num_pos
 have hnle := hok.lap.num_le
 have hmid := fun k => (hok.lap.mid hR k)
 rw [hF] at hbx
 have hx0 : cx K.R s.xs s.f 0 = s.xs.set F 0 := by show x0 s.xs s.f = _; unfold x0; rw [hF, Int.toNat_natCast]
 have hj100 : (0 : Int) ≤ s.j ∧ (s.j : Int) ≤ 1000 := ⟨by omega, by have := hok.hi; omega⟩
 have HF := Lib.hid hF
 have HR := Lib.hid hR
 have HAt := Lib.hid hAt
 have Hok := Lib.hid hok
 have Hmid := Lib.hid hmid
 have Hx0 := Lib.hid hx0
 have Hnum := Lib.hid hnum
 have Hsw := Lib.hid hsw
 have Hjj := Lib.hid hjj
 have Hbx := Lib.hid hbx
 have hBA : W.heap.size + 3 ≤ A.heap.size := hbx.lt
 have hHn : s.n = cnt s.xs s.f := rfl
 obtain ⟨-, cw, cv, cp, fp, -, -⟩ := hbx
 clear hF hRp hR hAt hmid hx0 hok hsw hjj hnum
 gi_wp2_with fail
 refine ⟨trivial, wide_room, ?_⟩
 refine CallsIn.mono (callsIn_wide.2 (take_any K F ha2 la2 s.j s.xs s.ys A Hsw.out hFn hj100.1 hj100.2 hn1000)) ?_
 rintro e A1 ⟨⟨v13', rfl⟩, hsw1, hch1⟩
 have hab1 := Above.of_ch (B := W.heap.size) hch1 Hlow.out
 have HB1 := Lib.hid (Hbx.out.above hab1)
 have HJ1 := Lib.hid (HJ.out _ _ _ _ Hjj.out (Out.of_ch hch1 (by omega)))
 have HS1 : Hid (StW A1 K s 0 la2) := by
  have h1 : s.xs.getD F 0 = (s.n : Int) - ((0 : Nat) : Int) := by
   have := Hnum.out
   rw [HF.out, Int.toNat_natCast] at this
   rw [hHn, HF.out, this]
   simp
  rw [h1] at hsw1
  show Hid (SwS _ _ _ _ _ (cx K.R s.xs s.f 0) _)
  rw [Hx0.out]
  exact Lib.hid hsw1
 obtain ⟨-, cw, cv, cp, fp, -, -⟩ := HB1.out
 obtain ⟨-, q0, q1, q2, q3, q4, q5, q6, q7, q8, q9, -⟩ := hsw1
 rw [Hpl.out] at q9
 have hBA1 : W.heap.size + 3 ≤ A1.heap.size := HB1.out.lt
 clear hch1 hab1 Hsw Hjj Hbx hBA
 gi_wp2_with fail
 gi_quiet ((fail))
 gi_wp2_with fail
 have hd2 := below_dn (Below.refl W.heap.size A1) nq
 have HB2 := Lib.hid (HB1.out.above (Above.of_below (below_dn (Below.refl _ A1) nq)))
 have HJ2 := Lib.hid (HJ.out _ _ _ _ HJ1.out (Out.of_low hd2))
 have HS2 : Hid (StW (A1.drewN nq) K s 0 la2) := Lib.hid (SwS.low HS1.out hd2 Hlow.out)
 clear HB1 HJ1 HS1 cw cv cp fp q0 q1 q2 q3 q4 q5 q6 q7 q8 q9 hBA1 hd2
 generalize A1.drewN nq = A2 at *
 have hBA2 : W.heap.size + 3 ≤ A2.heap.size := HB2.out.lt
 refine range_stmt (gf := 176) (fb := #[.agg #[.int .i64 K.p, .int .i64 K.s, .bool K.st, .bool K.sk, .bool K.re, .bool K.fe, .bool K.ag, .int .i64 K.c, .int .i64 K.l, .int .i64 0, .int .i64 F]]) (cb := #[]) rfl (enters_of Tryz.func176 (by kernel_rfl) rfl) ?_
 intro fn R hRR
 have hb23 : Below A2.heap.size A2 ((A2.alloc (.deferred (some []))).alloc (.loop (R .ready none))) := ((Below.refl _ A2).alloc (Nat.le_refl _) _).alloc (by simp) _
 have hrc : RecAt ((A2.alloc (.deferred (some []))).alloc (.loop (R .ready none))) (A2.heap.size + 1) A2.heap.size (R .ready none) := laid_loop A2 _
 have hsz3 : ((A2.alloc (.deferred (some []))).alloc (.loop (R .ready none))).heap.size = A2.heap.size + 1 + 1 := by simp
 have HB3 := Lib.hid (HB2.out.above (Above.of_below hb23))
 have HJ3 := Lib.hid (HJ.out _ _ _ _ HJ2.out (Out.of_low (low_below hb23 (by omega))))
 have HS3 : Hid (StW ((A2.alloc (.deferred (some []))).alloc (.loop (R .ready none))) K s 0 la2) := Lib.hid (SwS.low HS2.out (low_below hb23 (by omega)) Hlow.out)
 generalize (A2.alloc (.deferred (some []))).alloc (.loop (R .ready none)) = A3 at *
 have HRR := Lib.hid hRR
 have Hrc := Lib.hid hrc
 have Hsz3 := Lib.hid hsz3
 have hDs : A2.heap.size ∉ ds := fun hm => by
  have := (HB2.out.ms _ hm).2
  have := (Array.getElem?_eq_some_iff.1 this).1
  omega
 have HDs := Lib.hid hDs
 clear hb23 hrc hsz3 hRR HB2 HJ2 HS2 hDs
 refine (places_gives0 (n - 1) K.p K.s K.c K.l K.st K.sk K.re K.fe K.ag F hp hp8 (by omega) hF1 A3.heap.size (A2.heap.size + 1) s.n
  (LapJ W.heap.size K l F ds s JJ (A2.heap.size + 1) A2.heap.size R) (LapX W.heap.size K l F ds s JJ Jx (A2.heap.size + 1) A2.heap.size R)
  A3 (Nat.le_refl _) ?_ ?_ ⟨HJ3.out, ⟨la2, HS3.out⟩, HB3.out, Hrc.out, fun h => absurd h (by omega)⟩ (by omega)).mono ?_
 ·rintro k A Z ⟨h1, ⟨lx, h2⟩, h3, h4, h5⟩ hb
  have hlow := low_below (B := W.heap.size) hb (by have := h3.lt; omega)
  exact ⟨HJ.out _ _ _ _ h1 (Out.of_low hlow), ⟨lx, SwS.low h2 hlow Hlow.out⟩, h3.above (Above.of_below hb), h4.below hb, h5⟩
 ·rintro k A hk ⟨h1, ⟨lx, h2⟩, h3, h4, h5⟩
  rw [HAt.out k]
  refine round_yield HRR.out h4.1 rfl ?_
  intro K0 hK0
  gi_wp2
  refine ⟨h4.1, ?_⟩
  have hlow4 := low_put (B := W.heap.size) A (.loop (R .busy none)) (show W.heap.size ≤ A2.heap.size + 1 by omega)
  have hrec4 := h4.put (r' := R .busy none) (by omega)
  have hbx4 := h3.loop (r' := R .busy none) h4.1
  have hab4 := Above.putObj (B := A3.heap.size) (A := A) (r := A2.heap.size + 1) (.loop (R .busy none)) (by rw [Hsz3.out]; omega)
  have hjj4 := HJ.out _ _ _ _ h1 (Out.of_low hlow4)
  have hsw4 := SwS.low h2 hlow4 Hlow.out
  generalize A.putObj (A2.heap.size + 1) (.loop (R .busy none)) = A4 at *
  have Hrec4 := Lib.hid hrec4
  have Hbx4 := Lib.hid hbx4
  have Hab4 := Lib.hid hab4
  have Hjj4 := Lib.hid hjj4
  have Hsw4 := Lib.hid hsw4
  have hB4 : W.heap.size + 3 ≤ A4.heap.size := hbx4.lt
  obtain ⟨-, cw, cv, cp, fp, -, -⟩ := hbx4
  clear h1 h2 h3 h4 h5 hlow4 hrec4 hab4 hjj4 hsw4
  gi_wp2_with fail
  refine ⟨trivial, wide_room, ?_⟩
  refine CallsIn.mono (CallsIn.inRound _ (callsIn_wide.2 (put_any K (K.R.at s.f k) _ _ _ _ _ A4 (by rw [Hpl.out]; simp) Hsw4.out ?_ ?_ ?_ ?_ hn1000 ?_))) ?_
  ·have : s.n = cnt s.xs s.f := rfl
   omega
  ·have : s.n = cnt s.xs s.f := rfl
   omega
  ·exact (Hok.out.lap.at_bd HR.out k).1
  ·have := (Hok.out.lap.at_bd HR.out k).2
   have h2 := Hn1.out
   have h3 : K.R.p = K.p := rfl
   omega
  ·intro i
   have h1 := (Hmid.out k).bd i
   have h2 := Hok.out.lap.hi
   have h3 : s.n = cnt s.xs s.f := rfl
   omega
  rintro e A5 ⟨rfl, hsw5, hch5⟩
  generalize hrl : rlb K.re (cx K.R s.xs s.f k) (K.R.at s.f k) = rl
  have Hrl := Lib.hid hrl
  have hab5 := Above.of_ch (B := W.heap.size) hch5 Hlow.out
  have Hbx5 := Lib.hid (Hbx4.out.above hab5)
  have Hjj5 := Lib.hid (HJ.out _ _ _ _ Hjj4.out (Out.of_ch hch5 (by omega)))
  have Hrec5 := Lib.hid (Hrec4.out.above hab5 (by omega) (by omega))
  have Hab5 := Lib.hid (Hab4.out.trans (hab5.mono (by have := Hsz3.out; omega)))
  have HS5 : Hid (StW A5 K s (k + 1) (K.R.at s.f k)) := Lib.hid (by
   have e1 : (s.n : Int) - k - 1 = (s.n : Int) - ((k + 1 : Nat) : Int) := by omega
   rw [e1] at hsw5
   exact hsw5)
  have hq := HY.out s k A5 Hok.out hk Hjj5.out HS5.out
  obtain ⟨fn2, tmps2, assign2, body2, hy2, hR2⟩ := hq
  obtain ⟨-, cw, cv, cp, fp, -, -⟩ := Hbx5.out
  clear hrl hsw5 hch5 hab5
  gi_wp2_with fail
  refine ⟨wide_room, RoundIn.mono (show RoundIn (Fence.wide.inRound (A2.heap.size + 1)) (n - 1 - 1 - 1) Tryz.prog l fn2 tmps2 assign2 body2 A5 _ from hR2) ?_⟩
  rintro e Z (⟨rfl, hj6, hjj6, hsw6, hab6⟩ | ⟨rfl, hjx6, hab6⟩)
  ·have Hbx6 := Lib.hid (Hbx5.out.above hab6)
   have Hrec6 := Lib.hid (Hrec5.out.above hab6 (by omega) (by omega))
   have Hab6 := Lib.hid (Hab5.out.trans (hab6.mono (by have := Hsz3.out; omega)))
   have Hjj6 := Lib.hid hjj6
   have Hsw6 := Lib.hid hsw6
   have hB6 : W.heap.size + 3 ≤ Z.heap.size := Hbx6.out.lt
   obtain ⟨-, cw, cv, cp, fp, -, -⟩ := Hbx6.out
   have q11 := hsw6.q11
   clear hjj6 hsw6 hab6 hR2 hy2 Hbx4 Hbx5 Hjj4 Hjj5 Hsw4 HS5 Hrec4 Hrec5
   by_cases hlast : k + 1 < s.n
   ·have hpos : decide (0 < (s.n : Int) - ((k + 1 : Nat) : Int)) = true := by simp; omega
    have p1 : 0 < (s.n : Int) - ((k + 1 : Nat) : Int) := by omega
    generalize (s.n : Int) - ((k + 1 : Nat) : Int) = hd at *
    gi_wp2_with fail
    have hlowr := low_put (B := W.heap.size) Z (.loop (R .ready none)) (show W.heap.size ≤ A2.heap.size + 1 by omega)
    exact ⟨Hrec6.out.1, .inl ⟨rfl, hlast, ⟨HJ.out _ _ _ _ Hjj6.out (Out.of_low hlowr), ⟨_, SwS.low Hsw6.out hlowr Hlow.out⟩, Hbx6.out.loop Hrec6.out.1, Hrec6.out.put (by omega), fun _ => hj6⟩, Hab6.out.trans (Above.putObj _ (by have := Hsz3.out; omega))⟩⟩
   ·have hend : k + 1 = s.n := by omega
    have hneg : decide (0 < (s.n : Int) - ((k + 1 : Nat) : Int)) = false := by simp; omega
    have p1 : ¬ 0 < (s.n : Int) - ((k + 1 : Nat) : Int) := by omega
    have hag : agn K.R s.xs s.f = rl := by rw [← Hrl.out]; exact (rlb_agn hend).symm
    have hls : K.R.at s.f k = lst K.R s.xs s.f := by
     have h3 : s.n = cnt s.xs s.f := rfl
     unfold lst
     rw [show cnt s.xs s.f - 1 = k by omega]
    have HSe : Hid (StW Z K s s.n (lst K.R s.xs s.f)) := Lib.hid (by rw [← hend, ← hls]; exact Hsw6.out)
    have HJe : Hid (JJ s s.n Z) := Lib.hid (by rw [← hend]; exact Hjj6.out)
    have Hag := Lib.hid hag
    have Hls := Lib.hid hls
    clear hag hls hend Hrl Hjj6 Hsw6
    generalize (s.n : Int) - ((k + 1 : Nat) : Int) = hd at *
    cases rl
    ·gi_wp2_with fail
     have hlowr := low_put (B := W.heap.size) Z (.loop (R .done (some .ret))) (show W.heap.size ≤ A2.heap.size + 1 by omega)
     exact ⟨Hrec6.out.1, .inr ⟨rfl, ⟨.inr (.inl ⟨Hag.out, hj6, HJ.out _ _ _ _ HJe.out (Out.of_low hlowr), SwS.low HSe.out hlowr Hlow.out, Hbx6.out.loop Hrec6.out.1, Hrec6.out.put (by omega)⟩)⟩⟩⟩
    ·gi_wp2_with fail
     have hls1 := low_set (B := W.heap.size) Z (q := ⟨W.heap.size + 1 + 1, 0, none⟩) (by simp; omega) (.int .i64 (K.R.at s.f k))
     have hrecs := Hrec6.out.setCell cp (.int .i64 (K.R.at s.f k))
     have hlowr := hls1.trans (low_put (B := W.heap.size) _ (.loop (R .done (some (.exit 1)))) (show W.heap.size ≤ A2.heap.size + 1 by omega))
     refine ⟨hrecs.1, .inr ⟨rfl, ⟨.inr (.inr ⟨Hag.out, hj6, HJ.out _ _ _ _ HJe.out (Out.of_low hlowr), SwS.low HSe.out hlowr Hlow.out, ?_, hrecs.put (by omega)⟩)⟩⟩⟩
     rw [← Hls.out]
     exact (Hbx6.out.setP _).loop hrecs.1
  ·have Hbx6 := Lib.hid (Hbx5.out.above hab6)
   have Hrec6 := Lib.hid (Hrec5.out.above hab6 (by omega) (by omega))
   have Hjx6 := Lib.hid hjx6
   clear hjx6 hab6 hR2 hy2
   gi_wp2_with fail
   exact ⟨Hrec6.out.1, .inr ⟨rfl, ⟨.inl ⟨HJx.out _ _ Hjx6.out (low_put (B := W.heap.size) Z _ (by omega)), Hbx6.out.loop Hrec6.out.1, Hrec6.out.put (by omega)⟩⟩⟩⟩
 ·rintro e Z ⟨hv, hz⟩
  refine ⟨hv, .inr ?_⟩
  have HStep : Hid (∀ A D, StepE K t JJ Jx A → W.heap.size ≤ D → A.heap[D]? = some (.deferred (some [])) → StepE K t JJ Jx (A.putObj D (.deferred none))) := Lib.hid fun A D h hD _ => by
   have hl := low_put (B := W.heap.size) A (.deferred none) hD
   rcases h with ⟨s', a1, a2, a3, a4, a5⟩ | h
   ·exact .inl ⟨s', a1, a2, a3, HJ.out _ _ _ _ a4 (Out.of_low hl), SwS.low a5 hl Hlow.out⟩
   ·exact .inr (HJx.out _ _ h hl)
  clear hv
  rcases hz with ⟨⟨hjx, hbx, hr⟩ | ⟨hag, hj, hjj, hsw, hbx, hr⟩ | ⟨hag, hj, hjj, hsw, hbx, hr⟩⟩
  ·refine ⟨_, hr.1, ?_⟩
   have hlow := low_put (B := W.heap.size) Z (.loop (R .exhausted (some .ret))) (show W.heap.size ≤ A2.heap.size + 1 by omega)
   have Hbx := Lib.hid (hbx.loop (r' := R .exhausted (some .ret)) hr.1)
   have Hrec := Lib.hid (hr.put (r' := R .exhausted (some .ret)) (by omega))
   have HE : Hid (StepE K t JJ Jx (Z.putObj (A2.heap.size + 1) (.loop (R .exhausted (some .ret))))) := Lib.hid (.inr (HJx.out _ _ hjx hlow))
   generalize Z.putObj (A2.heap.size + 1) (.loop (R .exhausted (some .ret))) = Z2 at *
   clear hlow hbx hr hjx
   gi_wp2_with fail
   refine ⟨by simp, .inl ⟨_, _, rfl, run_takeDeferred Hrec.out.2, ?_⟩⟩
   exact leaves_marks (B0 := W.heap.size) (StepE K t JJ Jx) HStep.out (fun A h => ⟨_, results_none rfl _ _ _, ⟨_, rfl⟩, h⟩) ds _ Hbx.out.nd (fun D hD => ⟨(Hbx.out.ms D hD).1, (World.putObj_heap_other (fun e => HDs.out (by rw [← e]; exact hD))).trans (Hbx.out.ms D hD).2⟩) (HStep.out _ _ HE.out (by omega) Hrec.out.2)
  ·refine ⟨_, hr.1, ?_⟩
   have hlow := low_put (B := W.heap.size) Z (.loop (R .exhausted (some .ret))) (show W.heap.size ≤ A2.heap.size + 1 by omega)
   have Hbx := Lib.hid (hbx.loop (r' := R .exhausted (some .ret)) hr.1)
   have Hrec := Lib.hid (hr.put (r' := R .exhausted (some .ret)) (by omega))
   have HE : Hid (StepE K t JJ Jx (Z.putObj (A2.heap.size + 1) (.loop (R .exhausted (some .ret))))) := Lib.hid (.inl ⟨s, Hok.out, hj, hag, HJ.out _ _ _ _ hjj (Out.of_low hlow), SwS.low hsw hlow Hlow.out⟩)
   generalize Z.putObj (A2.heap.size + 1) (.loop (R .exhausted (some .ret))) = Z2 at *
   clear hlow hbx hr hag hjj hsw
   gi_wp2_with fail
   refine ⟨by simp, .inl ⟨_, _, rfl, run_takeDeferred Hrec.out.2, ?_⟩⟩
   exact leaves_marks (B0 := W.heap.size) (StepE K t JJ Jx) HStep.out (fun A h => ⟨_, results_none rfl _ _ _, ⟨_, rfl⟩, h⟩) ds _ Hbx.out.nd (fun D hD => ⟨(Hbx.out.ms D hD).1, (World.putObj_heap_other (fun e => HDs.out (by rw [← e]; exact hD))).trans (Hbx.out.ms D hD).2⟩) (HStep.out _ _ HE.out (by omega) Hrec.out.2)
  ·refine ⟨_, hr.1, ?_⟩
   have hlow := low_put (B := W.heap.size) Z (.loop (R .exhausted (some (.exit 1)))) (show W.heap.size ≤ A2.heap.size + 1 by omega)
   have hrec := hr.put (r' := R .exhausted (some (.exit 1))) (by omega)
   have Hbx := Lib.hid ((hbx.loop (r' := R .exhausted (some (.exit 1))) hr.1).mark hrec.2 (by omega) HDs.out)
   have HJn := Lib.hid (HN.out s _ Hok.out hj hag (HJ.out _ _ _ _ hjj (Out.of_low hlow)))
   have HSn : Hid (SwS (Z.putObj (A2.heap.size + 1) (.loop (R .exhausted (some (.exit 1))))) K ((s.n : Int) - s.n) (lst K.R s.xs s.f) ((s.next K.R).j : Int) (s.next K.R).xs (s.next K.R).ys) := Lib.hid (by
    have := SwS.low hsw hlow Hlow.out
    have e : (((s.next K.R).j : Nat) : Int) = (s.j : Int) + 1 := by show ((s.j + 1 : Nat) : Int) = _; omega
    rw [e]
    exact this)
   have HOk : Hid ((s.next K.R).Ok K.R t) := Lib.hid ⟨Hok.out.lap.next HR.out hag, by show s.j + 1 ≤ 100; omega⟩
   generalize Z.putObj (A2.heap.size + 1) (.loop (R .exhausted (some (.exit 1)))) = Z2 at *
   clear hlow hbx hr hag hjj hsw hrec
   gi_wp2_with fail
   exact Handed.intro (101 - (s.j + 1)) (by omega) (HJ'.out _ _ _ ⟨s.next K.R, A2.heap.size :: ds, _, _, _, _, _, _, _, _, _, _, _, _, _, _, _, _, _, _, _, _, _, _, _, _, _, _, _, _, _, _, _, _, _, _, rfl, rfl, HOk.out, HJn.out, HSn.out, Hbx.out⟩)
theorem steps_gives1 (n : Nat) (K : Cfg) (hpl : K.pl = 1) (hp : 2 ≤ K.p) (hp8 : K.p ≤ 8) (hn1 : (K.n1 : Int) = 2 * K.p) (t : Int) (l : Nat) (JJ : Stg → Nat → World → Prop) (Jx : World → Prop) (W : World) (s0 : Stg) (ha la : Int)
  (hS : SwS W K ha la 0 s0.xs s0.ys) (hfi : K.fi = s0.f) (hs0 : s0.Ok K.R t) (hj0 : s0.j = 0)
  (hJ : ∀ s i A Z, JJ s i A → Out W.heap.size K A Z → JJ s i Z)
  (hJx : ∀ A Z, Jx A → Below W.heap.size A Z → Jx Z)
  (hY : ∀ s i A, s.Ok K.R t → i < s.n → JJ s i A → StW A K s (i + 1) (K.R.at s.f i) → YieldAt Fence.wide (n - 1 - 1 - 1) Tryz.prog l #[.int .i64 (K.R.at s.f i)] A fun e Z =>
   (e = .returned (.bool true) ∧ s.j < 100 ∧ JJ s (i + 1) Z ∧ StW Z K s (i + 1) (K.R.at s.f i) ∧ Above W.heap.size A Z) ∨ (e = .returned (.bool false) ∧ Jx Z ∧ Above W.heap.size A Z))
  (hN : ∀ s A, s.Ok K.R t → s.j < 100 → agn K.R s.xs s.f = true → JJ s s.n A → JJ (s.next K.R) 0 A)
  (h0 : JJ s0 0 W) :
  CallsIn Fence.wide n Tryz.prog 161 #[.pointer (some ⟨K.b, 0, none⟩), .func (.yield l) #[] #[]] W fun e Z => (∃ v, e = .returned v) ∧ StepE K t JJ Jx Z := by
 have hlow : K.b < W.heap.size ∧ K.g1 < W.heap.size ∧ K.g2 < W.heap.size := ⟨hS.lt, hS.h1, hS.h2⟩
 have hb := hlow.1
 have q10 := hS.q10
 have HS := Lib.hid hS
 have HJ := Lib.hid hJ
 have HJx := Lib.hid hJx
 have HY := Lib.hid hY
 have HN := Lib.hid hN
 have H0 := Lib.hid h0
 have Hs0 := Lib.hid hs0
 have Hfi := Lib.hid hfi
 have Hj0 := Lib.hid hj0
 have Hpl := Lib.hid hpl
 have Hn1 := Lib.hid hn1
 have Hlow := Lib.hid hlow
 clear hS hJ hJx hY hN h0 hs0 hfi hj0 hpl hn1 hlow
 refine callsIn_of_wp_marks Tryz.func161 rfl trivial ?_ rfl
 simp only [Tryz.ntmps161, List.size_toArray, List.length_cons, List.length_nil, Nat.reduceAdd, Nat.reduceSub, Array.replicate_succ, Array.replicate_zero, List.push_toArray, List.append_toArray, List.nil_append, List.cons_append]
 gi_wp2_with fail
 refine wpIn_scope ?_
 gi_wp2_with fail
 refine wpIn_label ?_
 gi_wp2_with fail
 have hB0 : Below W.heap.size W (((W.alloc (.cells #[.pointer (some ⟨K.b, 0, none⟩)] 191)).alloc (.cells #[.func (.yield l) #[] #[]] 111)).alloc (.cells #[.int .i64 K.fi] 2)) := (((Below.refl _ _).alloc (Nat.le_refl _) _).alloc (by simp) _).alloc (by simp; omega) _
 have HX0 : Hid (BxS W.heap.size K.b l K.fi [] (((W.alloc (.cells #[.pointer (some ⟨K.b, 0, none⟩)] 191)).alloc (.cells #[.func (.yield l) #[] #[]] 111)).alloc (.cells #[.int .i64 K.fi] 2))) :=
  Lib.hid ⟨by simp, by go_simp, by go_simp, by go_simp, by go_simp, (fun D hD => by cases hD), List.nodup_nil⟩
 generalize ((W.alloc (.cells #[.pointer (some ⟨K.b, 0, none⟩)] 191)).alloc (.cells #[.func (.yield l) #[] #[]] 111)).alloc (.cells #[.int .i64 K.fi] 2) = W1 at *
 have HB0 := Lib.hid hB0
 clear hB0 q10
 refine wpIn_loop_ghost_k (fun g a A => ∃ (s : Stg) (ds : List Nat) (ha2 la2 : Int) (v5 v6 v11 v12 v13 v14 v15 v16 v17 v18 v19 v20 v21 v22 v23 v24 v25 v26 v27 v28 v29 v30 v31 v32 v33 v34 v35 v36 v37 v38 v39 v40 : Value), a = { tmps := #[.pointer (some ⟨K.b, 0, none⟩), .func (.yield l) #[] #[], .pointer (some ⟨W.heap.size, 0, none⟩), .pointer (some ⟨W.heap.size + 1, 0, none⟩), .pointer (some ⟨W.heap.size + 1 + 1, 0, none⟩), v5, v6, .pointer (some ⟨K.b, 0, none⟩), .pointer (some ⟨K.b, 0, none⟩), .pointer (some ⟨K.b, 10, none⟩), .int .i64 K.fi, v11, v12, v13, v14, v15, v16, v17, v18, v19, v20, v21, v22, v23, v24, v25, v26, v27, v28, v29, v30, v31, v32, v33, v34, v35, v36, v37, v38, v39, v40], defers := ds.map mk } ∧ g = 101 - s.j ∧ s.Ok K.R t ∧ JJ s 0 A ∧ SwS A K ha2 la2 s.j s.xs s.ys ∧ BxS W.heap.size K.b l s.f ds A)
  101 ⟨s0, [], ha, la, _, _, _, _, _, _, _, _, _, _, _, _, _, _, _, _, _, _, _, _, _, _, _, _, _, _, _, _, _, _, _, _, rfl, by rw [Hj0.out], Hs0.out, HJ.out _ _ _ _ H0.out (Out.of_low HB0.out), by rw [Hj0.out]; exact HS.out.low HB0.out Hlow.out, by rw [← Hfi.out]; exact HX0.out⟩ ?_
 rintro g a A ⟨s, ds, ha2, la2, v5, v6, v11, v12, v13, v14, v15, v16, v17, v18, v19, v20, v21, v22, v23, v24, v25, v26, v27, v28, v29, v30, v31, v32, v33, v34, v35, v36, v37, v38, v39, v40, rfl, rfl, hok, hjj, hsw, hbx⟩ J' K' hJ' hK'
 have HJ' := Lib.hid hJ'
 clear hJ' HX0 HS HB0 H0 Hs0
 obtain ⟨F, hF⟩ : ∃ F : Nat, s.f = F := ⟨s.f.toNat, by have := hok.lap.f0; omega⟩
 have hRp : K.R.p = K.p := rfl
 have hF1 : (F : Int) < 2 * K.p := by have := hok.lap.f1; rw [hRp, hF] at this; exact this
 have hFn : F < K.n1 := by have := Hn1.out; omega
 have hn1000 : K.n1 ≤ 1000 := by have := Hn1.out; omega
 have hR : K.R.Fit := ⟨hp, hp8, by show K.pl = 0 ∨ K.pl = 1; rw [Hpl.out]; simp⟩
 have hAt : ∀ k, plc K.p 1 K.st K.sk F k = K.R.at s.f k := fun k => by rw [← hF]; show _ = plc K.p K.pl K.st K.sk s.f k; rw [Hpl.out]
 have hnum := hok.lap.num
 have hnpos := hok.lap.num_pos
 have hnle := hok.lap.num_le
 have hmid := fun k => (hok.lap.mid hR k)
 rw [hF] at hbx
 have hx0 : cx K.R s.xs s.f 0 = s.xs.set F 0 := by show x0 s.xs s.f = _; unfold x0; rw [hF, Int.toNat_natCast]
 have hj100 : (0 : Int) ≤ s.j ∧ (s.j : Int) ≤ 1000 := ⟨by omega, by have := hok.hi; omega⟩
 have HF := Lib.hid hF
 have HR := Lib.hid hR
 have HAt := Lib.hid hAt
 have Hok := Lib.hid hok
 have Hmid := Lib.hid hmid
 have Hx0 := Lib.hid hx0
 have Hnum := Lib.hid hnum
 have Hsw := Lib.hid hsw
 have Hjj := Lib.hid hjj
 have Hbx := Lib.hid hbx
 have hBA : W.heap.size + 3 ≤ A.heap.size := hbx.lt
 have hHn : s.n = cnt s.xs s.f := rfl
 obtain ⟨-, cw, cv, cp, fp, -, -⟩ := hbx
 clear hF hRp hR hAt hmid hx0 hok hsw hjj hnum
 gi_wp2_with fail
 refine ⟨trivial, wide_room, ?_⟩
 refine CallsIn.mono (callsIn_wide.2 (take_any K F ha2 la2 s.j s.xs s.ys A Hsw.out hFn hj100.1 hj100.2 hn1000)) ?_
 rintro e A1 ⟨⟨v13', rfl⟩, hsw1, hch1⟩
 have hab1 := Above.of_ch (B := W.heap.size) hch1 Hlow.out
 have HB1 := Lib.hid (Hbx.out.above hab1)
 have HJ1 := Lib.hid (HJ.out _ _ _ _ Hjj.out (Out.of_ch hch1 (by omega)))
 have HS1 : Hid (StW A1 K s 0 la2) := by
  have h1 : s.xs.getD F 0 = (s.n : Int) - ((0 : Nat) : Int) := by
   have := Hnum.out
   rw [HF.out, Int.toNat_natCast] at this
   rw [hHn, HF.out, this]
   simp
  rw [h1] at hsw1
  show Hid (SwS _ _ _ _ _ (cx K.R s.xs s.f 0) _)
  rw [Hx0.out]
  exact Lib.hid hsw1
 obtain ⟨-, cw, cv, cp, fp, -, -⟩ := HB1.out
 obtain ⟨-, q0, q1, q2, q3, q4, q5, q6, q7, q8, q9, -⟩ := hsw1
 rw [Hpl.out] at q9
 have hBA1 : W.heap.size + 3 ≤ A1.heap.size := HB1.out.lt
 clear hch1 hab1 Hsw Hjj Hbx hBA
 gi_wp2_with fail
 gi_quiet ((fail))
 gi_wp2_with fail
 have hd2 := below_dn (Below.refl W.heap.size A1) nq
 have HB2 := Lib.hid (HB1.out.above (Above.of_below (below_dn (Below.refl _ A1) nq)))
 have HJ2 := Lib.hid (HJ.out _ _ _ _ HJ1.out (Out.of_low hd2))
 have HS2 : Hid (StW (A1.drewN nq) K s 0 la2) := Lib.hid (SwS.low HS1.out hd2 Hlow.out)
 clear HB1 HJ1 HS1 cw cv cp fp q0 q1 q2 q3 q4 q5 q6 q7 q8 q9 hBA1 hd2
 generalize A1.drewN nq = A2 at *
 have hBA2 : W.heap.size + 3 ≤ A2.heap.size := HB2.out.lt
 refine range_stmt (gf := 176) (fb := #[.agg #[.int .i64 K.p, .int .i64 K.s, .bool K.st, .bool K.sk, .bool K.re, .bool K.fe, .bool K.ag, .int .i64 K.c, .int .i64 K.l, .int .i64 1, .int .i64 F]]) (cb := #[]) rfl (enters_of Tryz.func176 (by kernel_rfl) rfl) ?_
 intro fn R hRR
 have hb23 : Below A2.heap.size A2 ((A2.alloc (.deferred (some []))).alloc (.loop (R .ready none))) := ((Below.refl _ A2).alloc (Nat.le_refl _) _).alloc (by simp) _
 have hrc : RecAt ((A2.alloc (.deferred (some []))).alloc (.loop (R .ready none))) (A2.heap.size + 1) A2.heap.size (R .ready none) := laid_loop A2 _
 have hsz3 : ((A2.alloc (.deferred (some []))).alloc (.loop (R .ready none))).heap.size = A2.heap.size + 1 + 1 := by simp
 have HB3 := Lib.hid (HB2.out.above (Above.of_below hb23))
 have HJ3 := Lib.hid (HJ.out _ _ _ _ HJ2.out (Out.of_low (low_below hb23 (by omega))))
 have HS3 : Hid (StW ((A2.alloc (.deferred (some []))).alloc (.loop (R .ready none))) K s 0 la2) := Lib.hid (SwS.low HS2.out (low_below hb23 (by omega)) Hlow.out)
 generalize (A2.alloc (.deferred (some []))).alloc (.loop (R .ready none)) = A3 at *
 have HRR := Lib.hid hRR
 have Hrc := Lib.hid hrc
 have Hsz3 := Lib.hid hsz3
 have hDs : A2.heap.size ∉ ds := fun hm => by
  have := (HB2.out.ms _ hm).2
  have := (Array.getElem?_eq_some_iff.1 this).1
  omega
 have HDs := Lib.hid hDs
 clear hb23 hrc hsz3 hRR HB2 HJ2 HS2 hDs
 refine (places_gives1 (n - 1) K.p K.s K.c K.l K.st K.sk K.re K.fe K.ag F hp hp8 (by omega) hF1 A3.heap.size (A2.heap.size + 1) s.n
  (LapJ W.heap.size K l F ds s JJ (A2.heap.size + 1) A2.heap.size R) (LapX W.heap.size K l F ds s JJ Jx (A2.heap.size + 1) A2.heap.size R)
  A3 (Nat.le_refl _) ?_ ?_ ⟨HJ3.out, ⟨la2, HS3.out⟩, HB3.out, Hrc.out, fun h => absurd h (by omega)⟩ (by omega)).mono ?_
 ·rintro k A Z ⟨h1, ⟨lx, h2⟩, h3, h4, h5⟩ hb
  have hlow := low_below (B := W.heap.size) hb (by have := h3.lt; omega)
  exact ⟨HJ.out _ _ _ _ h1 (Out.of_low hlow), ⟨lx, SwS.low h2 hlow Hlow.out⟩, h3.above (Above.of_below hb), h4.below hb, h5⟩
 ·rintro k A hk ⟨h1, ⟨lx, h2⟩, h3, h4, h5⟩
  rw [HAt.out k]
  refine round_yield HRR.out h4.1 rfl ?_
  intro K0 hK0
  gi_wp2
  refine ⟨h4.1, ?_⟩
  have hlow4 := low_put (B := W.heap.size) A (.loop (R .busy none)) (show W.heap.size ≤ A2.heap.size + 1 by omega)
  have hrec4 := h4.put (r' := R .busy none) (by omega)
  have hbx4 := h3.loop (r' := R .busy none) h4.1
  have hab4 := Above.putObj (B := A3.heap.size) (A := A) (r := A2.heap.size + 1) (.loop (R .busy none)) (by rw [Hsz3.out]; omega)
  have hjj4 := HJ.out _ _ _ _ h1 (Out.of_low hlow4)
  have hsw4 := SwS.low h2 hlow4 Hlow.out
  generalize A.putObj (A2.heap.size + 1) (.loop (R .busy none)) = A4 at *
  have Hrec4 := Lib.hid hrec4
  have Hbx4 := Lib.hid hbx4
  have Hab4 := Lib.hid hab4
  have Hjj4 := Lib.hid hjj4
  have Hsw4 := Lib.hid hsw4
  have hB4 : W.heap.size + 3 ≤ A4.heap.size := hbx4.lt
  obtain ⟨-, cw, cv, cp, fp, -, -⟩ := hbx4
  clear h1 h2 h3 h4 h5 hlow4 hrec4 hab4 hjj4 hsw4
  gi_wp2_with fail
  refine ⟨trivial, wide_room, ?_⟩
  refine CallsIn.mono (CallsIn.inRound _ (callsIn_wide.2 (put_any K (K.R.at s.f k) _ _ _ _ _ A4 (by rw [Hpl.out]; simp) Hsw4.out ?_ ?_ ?_ ?_ hn1000 ?_))) ?_
  ·have : s.n = cnt s.xs s.f := rfl
   omega
  ·have : s.n = cnt s.xs s.f := rfl
   omega
  ·exact (Hok.out.lap.at_bd HR.out k).1
  ·have := (Hok.out.lap.at_bd HR.out k).2
   have h2 := Hn1.out
   have h3 : K.R.p = K.p := rfl
   omega
  ·intro i
   have h1 := (Hmid.out k).bd i
   have h2 := Hok.out.lap.hi
   have h3 : s.n = cnt s.xs s.f := rfl
   omega
  rintro e A5 ⟨rfl, hsw5, hch5⟩
  generalize hrl : rlb K.re (cx K.R s.xs s.f k) (K.R.at s.f k) = rl
  have Hrl := Lib.hid hrl
  have hab5 := Above.of_ch (B := W.heap.size) hch5 Hlow.out
  have Hbx5 := Lib.hid (Hbx4.out.above hab5)
  have Hjj5 := Lib.hid (HJ.out _ _ _ _ Hjj4.out (Out.of_ch hch5 (by omega)))
  have Hrec5 := Lib.hid (Hrec4.out.above hab5 (by omega) (by omega))
  have Hab5 := Lib.hid (Hab4.out.trans (hab5.mono (by have := Hsz3.out; omega)))
  have HS5 : Hid (StW A5 K s (k + 1) (K.R.at s.f k)) := Lib.hid (by
   have e1 : (s.n : Int) - k - 1 = (s.n : Int) - ((k + 1 : Nat) : Int) := by omega
   rw [e1] at hsw5
   exact hsw5)
  have hq := HY.out s k A5 Hok.out hk Hjj5.out HS5.out
  obtain ⟨fn2, tmps2, assign2, body2, hy2, hR2⟩ := hq
  obtain ⟨-, cw, cv, cp, fp, -, -⟩ := Hbx5.out
  clear hrl hsw5 hch5 hab5
  gi_wp2_with fail
  refine ⟨wide_room, RoundIn.mono (show RoundIn (Fence.wide.inRound (A2.heap.size + 1)) (n - 1 - 1 - 1) Tryz.prog l fn2 tmps2 assign2 body2 A5 _ from hR2) ?_⟩
  rintro e Z (⟨rfl, hj6, hjj6, hsw6, hab6⟩ | ⟨rfl, hjx6, hab6⟩)
  ·have Hbx6 := Lib.hid (Hbx5.out.above hab6)
   have Hrec6 := Lib.hid (Hrec5.out.above hab6 (by omega) (by omega))
   have Hab6 := Lib.hid (Hab5.out.trans (hab6.mono (by have := Hsz3.out; omega)))
   have Hjj6 := Lib.hid hjj6
   have Hsw6 := Lib.hid hsw6
   have hB6 : W.heap.size + 3 ≤ Z.heap.size := Hbx6.out.lt
   obtain ⟨-, cw, cv, cp, fp, -, -⟩ := Hbx6.out
   have q11 := hsw6.q11
   clear hjj6 hsw6 hab6 hR2 hy2 Hbx4 Hbx5 Hjj4 Hjj5 Hsw4 HS5 Hrec4 Hrec5
   by_cases hlast : k + 1 < s.n
   ·have hpos : decide (0 < (s.n : Int) - ((k + 1 : Nat) : Int)) = true := by simp; omega
    have p1 : 0 < (s.n : Int) - ((k + 1 : Nat) : Int) := by omega
    generalize (s.n : Int) - ((k + 1 : Nat) : Int) = hd at *
    gi_wp2_with fail
    have hlowr := low_put (B := W.heap.size) Z (.loop (R .ready none)) (show W.heap.size ≤ A2.heap.size + 1 by omega)
    exact ⟨Hrec6.out.1, .inl ⟨rfl, hlast, ⟨HJ.out _ _ _ _ Hjj6.out (Out.of_low hlowr), ⟨_, SwS.low Hsw6.out hlowr Hlow.out⟩, Hbx6.out.loop Hrec6.out.1, Hrec6.out.put (by omega), fun _ => hj6⟩, Hab6.out.trans (Above.putObj _ (by have := Hsz3.out; omega))⟩⟩
   ·have hend : k + 1 = s.n := by omega
    have hneg : decide (0 < (s.n : Int) - ((k + 1 : Nat) : Int)) = false := by simp; omega
    have p1 : ¬ 0 < (s.n : Int) - ((k + 1 : Nat) : Int) := by omega
    have hag : agn K.R s.xs s.f = rl := by rw [← Hrl.out]; exact (rlb_agn hend).symm
    have hls : K.R.at s.f k = lst K.R s.xs s.f := by
     have h3 : s.n = cnt s.xs s.f := rfl
     unfold lst
     rw [show cnt s.xs s.f - 1 = k by omega]
    have HSe : Hid (StW Z K s s.n (lst K.R s.xs s.f)) := Lib.hid (by rw [← hend, ← hls]; exact Hsw6.out)
    have HJe : Hid (JJ s s.n Z) := Lib.hid (by rw [← hend]; exact Hjj6.out)
    have Hag := Lib.hid hag
    have Hls := Lib.hid hls
    clear hag hls hend Hrl Hjj6 Hsw6
    generalize (s.n : Int) - ((k + 1 : Nat) : Int) = hd at *
    cases rl
    ·gi_wp2_with fail
     have hlowr := low_put (B := W.heap.size) Z (.loop (R .done (some .ret))) (show W.heap.size ≤ A2.heap.size + 1 by omega)
     exact ⟨Hrec6.out.1, .inr ⟨rfl, ⟨.inr (.inl ⟨Hag.out, hj6, HJ.out _ _ _ _ HJe.out (Out.of_low hlowr), SwS.low HSe.out hlowr Hlow.out, Hbx6.out.loop Hrec6.out.1, Hrec6.out.put (by omega)⟩)⟩⟩⟩
    ·gi_wp2_with fail
     have hls1 := low_set (B := W.heap.size) Z (q := ⟨W.heap.size + 1 + 1, 0, none⟩) (by simp; omega) (.int .i64 (K.R.at s.f k))
     have hrecs := Hrec6.out.setCell cp (.int .i64 (K.R.at s.f k))
     have hlowr := hls1.trans (low_put (B := W.heap.size) _ (.loop (R .done (some (.exit 1)))) (show W.heap.size ≤ A2.heap.size + 1 by omega))
     refine ⟨hrecs.1, .inr ⟨rfl, ⟨.inr (.inr ⟨Hag.out, hj6, HJ.out _ _ _ _ HJe.out (Out.of_low hlowr), SwS.low HSe.out hlowr Hlow.out, ?_, hrecs.put (by omega)⟩)⟩⟩⟩
     rw [← Hls.out]
     exact (Hbx6.out.setP _).loop hrecs.1
  ·have Hbx6 := Lib.hid (Hbx5.out.above hab6)
   have Hrec6 := Lib.hid (Hrec5.out.above hab6 (by omega) (by omega))
   have Hjx6 := Lib.hid hjx6
   clear hjx6 hab6 hR2 hy2
   gi_wp2_with fail
   exact ⟨Hrec6.out.1, .inr ⟨rfl, ⟨.inl ⟨HJx.out _ _ Hjx6.out (low_put (B := W.heap.size) Z _ (by omega)), Hbx6.out.loop Hrec6.out.1, Hrec6.out.put (by omega)⟩⟩⟩⟩
 ·rintro e Z ⟨hv, hz⟩
  refine ⟨hv, .inr ?_⟩
  have HStep : Hid (∀ A D, StepE K t JJ Jx A → W.heap.size ≤ D → A.heap[D]? = some (.deferred (some [])) → StepE K t JJ Jx (A.putObj D (.deferred none))) := Lib.hid fun A D h hD _ => by
   have hl := low_put (B := W.heap.size) A (.deferred none) hD
   rcases h with ⟨s', a1, a2, a3, a4, a5⟩ | h
   ·exact .inl ⟨s', a1, a2, a3, HJ.out _ _ _ _ a4 (Out.of_low hl), SwS.low a5 hl Hlow.out⟩
   ·exact .inr (HJx.out _ _ h hl)
  clear hv
  rcases hz with ⟨⟨hjx, hbx, hr⟩ | ⟨hag, hj, hjj, hsw, hbx, hr⟩ | ⟨hag, hj, hjj, hsw, hbx, hr⟩⟩
  ·refine ⟨_, hr.1, ?_⟩
   have hlow := low_put (B := W.heap.size) Z (.loop (R .exhausted (some .ret))) (show W.heap.size ≤ A2.heap.size + 1 by omega)
   have Hbx := Lib.hid (hbx.loop (r' := R .exhausted (some .ret)) hr.1)
   have Hrec := Lib.hid (hr.put (r' := R .exhausted (some .ret)) (by omega))
   have HE : Hid (StepE K t JJ Jx (Z.putObj (A2.heap.size + 1) (.loop (R .exhausted (some .ret))))) := Lib.hid (.inr (HJx.out _ _ hjx hlow))
   generalize Z.putObj (A2.heap.size + 1) (.loop (R .exhausted (some .ret))) = Z2 at *
   clear hlow hbx hr hjx
   gi_wp2_with fail
   refine ⟨by simp, .inl ⟨_, _, rfl, run_takeDeferred Hrec.out.2, ?_⟩⟩
   exact leaves_marks (B0 := W.heap.size) (StepE K t JJ Jx) HStep.out (fun A h => ⟨_, results_none rfl _ _ _, ⟨_, rfl⟩, h⟩) ds _ Hbx.out.nd (fun D hD => ⟨(Hbx.out.ms D hD).1, (World.putObj_heap_other (fun e => HDs.out (by rw [← e]; exact hD))).trans (Hbx.out.ms D hD).2⟩) (HStep.out _ _ HE.out (by omega) Hrec.out.2)
  ·refine ⟨_, hr.1, ?_⟩
   have hlow := low_put (B := W.heap.size) Z (.loop (R .exhausted (some .ret))) (show W.heap.size ≤ A2.heap.size + 1 by omega)
   have Hbx := Lib.hid (hbx.loop (r' := R .exhausted (some .ret)) hr.1)
   have Hrec := Lib.hid (hr.put (r' := R .exhausted (some .ret)) (by omega))
   have HE : Hid (StepE K t JJ Jx (Z.putObj (A2.heap.size + 1) (.loop (R .exhausted (some .ret))))) := Lib.hid (.inl ⟨s, Hok.out, hj, hag, HJ.out _ _ _ _ hjj (Out.of_low hlow), SwS.low hsw hlow Hlow.out⟩)
   generalize Z.putObj (A2.heap.size + 1) (.loop (R .exhausted (some .ret))) = Z2 at *
   clear hlow hbx hr hag hjj hsw
   gi_wp2_with fail
   refine ⟨by simp, .inl ⟨_, _, rfl, run_takeDeferred Hrec.out.2, ?_⟩⟩
   exact leaves_marks (B0 := W.heap.size) (StepE K t JJ Jx) HStep.out (fun A h => ⟨_, results_none rfl _ _ _, ⟨_, rfl⟩, h⟩) ds _ Hbx.out.nd (fun D hD => ⟨(Hbx.out.ms D hD).1, (World.putObj_heap_other (fun e => HDs.out (by rw [← e]; exact hD))).trans (Hbx.out.ms D hD).2⟩) (HStep.out _ _ HE.out (by omega) Hrec.out.2)
  ·refine ⟨_, hr.1, ?_⟩
   have hlow := low_put (B := W.heap.size) Z (.loop (R .exhausted (some (.exit 1)))) (show W.heap.size ≤ A2.heap.size + 1 by omega)
   have hrec := hr.put (r' := R .exhausted (some (.exit 1))) (by omega)
   have Hbx := Lib.hid ((hbx.loop (r' := R .exhausted (some (.exit 1))) hr.1).mark hrec.2 (by omega) HDs.out)
   have HJn := Lib.hid (HN.out s _ Hok.out hj hag (HJ.out _ _ _ _ hjj (Out.of_low hlow)))
   have HSn : Hid (SwS (Z.putObj (A2.heap.size + 1) (.loop (R .exhausted (some (.exit 1))))) K ((s.n : Int) - s.n) (lst K.R s.xs s.f) ((s.next K.R).j : Int) (s.next K.R).xs (s.next K.R).ys) := Lib.hid (by
    have := SwS.low hsw hlow Hlow.out
    have e : (((s.next K.R).j : Nat) : Int) = (s.j : Int) + 1 := by show ((s.j + 1 : Nat) : Int) = _; omega
    rw [e]
    exact this)
   have HOk : Hid ((s.next K.R).Ok K.R t) := Lib.hid ⟨Hok.out.lap.next HR.out hag, by show s.j + 1 ≤ 100; omega⟩
   generalize Z.putObj (A2.heap.size + 1) (.loop (R .exhausted (some (.exit 1)))) = Z2 at *
   clear hlow hbx hr hag hjj hsw hrec
   gi_wp2_with fail
   exact Handed.intro (101 - (s.j + 1)) (by omega) (HJ'.out _ _ _ ⟨s.next K.R, A2.heap.size :: ds, _, _, _, _, _, _, _, _, _, _, _, _, _, _, _, _, _, _, _, _, _, _, _, _, _, _, _, _, _, _, _, _, _, _, rfl, rfl, HOk.out, HJn.out, HSn.out, Hbx.out⟩)
/- Mov5 -/
open Go.RowKit Go.Shelf
attribute [local go_sem] Oper.semAt_some
def SoZ (n1 n2 : Nat) (la lp code : Int) (xs ys : List Int) (w : World) (e : Ending) (w' : World) : Prop :=
 ∃ a1 c1 b1 a2 c2 b2, e = .returned (.tuple #[.agg #[.slice a1 n1 c1, .slice a2 n2 c2, .int .i64 la, .int .i64 lp], .int .i64 code]) ∧ PosO w' w.heap.size a1 a2 b1 b2 n1 n2 xs ys ∧ b1 < w'.heap.size ∧ b2 < w'.heap.size ∧ n1 ≤ c1 ∧ n2 ≤ c2 ∧ Below w.heap.size w w'
theorem soZ_zero {w u : World} (cd : Int) (hb : Below w.heap.size w u) (h : w.heap.size + 1 < u.heap.size) : SoZ 0 0 0 0 cd [] [] w (.returned (.tuple #[.agg #[.slice none 0 0, .slice none 0 0, .int .i64 0, .int .i64 0], .int .i64 cd])) u :=
 ⟨none, 0, w.heap.size, none, 0, w.heap.size + 1, rfl, posO_zero _ _, by omega, h, Nat.le_refl _, Nat.le_refl _, hb⟩
structure RsV (w : World) (x0 x1 x2 x3 : Value) (cd : Int) (A : World) : Prop where
 be : Below w.heap.size w A
 lt : w.heap.size + 1 + 1 + 1 < A.heap.size
 c0 : A.cell? ⟨w.heap.size + 1 + 1, 0, none⟩ = some x0
 c1 : A.cell? ⟨w.heap.size + 1 + 1, 1, none⟩ = some x1
 c2 : A.cell? ⟨w.heap.size + 1 + 1, 2, none⟩ = some x2
 c3 : A.cell? ⟨w.heap.size + 1 + 1, 3, none⟩ = some x3
 c4 : A.cell? ⟨w.heap.size + 1 + 1 + 1, 0, none⟩ = some (.int .i64 cd)
 f0 : A.frozen? ⟨w.heap.size + 1 + 1, 0, none⟩ = false
 f1 : A.frozen? ⟨w.heap.size + 1 + 1, 1, none⟩ = false
 f2 : A.frozen? ⟨w.heap.size + 1 + 1, 2, none⟩ = false
 f3 : A.frozen? ⟨w.heap.size + 1 + 1, 3, none⟩ = false
 f4 : A.frozen? ⟨w.heap.size + 1 + 1 + 1, 0, none⟩ = false
section
variable {w A Z : World} {x0 x1 x2 x3 : Value} {cd : Int}
theorem RsV.keep (h : RsV w x0 x1 x2 x3 cd A) (hb : Below w.heap.size w Z) (hs : A.heap.size ≤ Z.heap.size) (k2 : Z.heap[w.heap.size + 1 + 1]? = A.heap[w.heap.size + 1 + 1]?) (k3 : Z.heap[w.heap.size + 1 + 1 + 1]? = A.heap[w.heap.size + 1 + 1 + 1]?) : RsV w x0 x1 x2 x3 cd Z := by
 have e := fun o => World.cell?_of_block (a := ⟨w.heap.size + 1 + 1, o, none⟩) k2
 have f := fun o => World.frozen?_of_block (a := ⟨w.heap.size + 1 + 1, o, none⟩) k2
 have e' := fun o => World.cell?_of_block (a := ⟨w.heap.size + 1 + 1 + 1, o, none⟩) k3
 have f' := fun o => World.frozen?_of_block (a := ⟨w.heap.size + 1 + 1 + 1, o, none⟩) k3
 exact ⟨hb, Nat.lt_of_lt_of_le h.lt hs, (e _).trans h.c0, (e _).trans h.c1, (e _).trans h.c2, (e _).trans h.c3, (e' _).trans h.c4, (f _).trans h.f0, (f _).trans h.f1, (f _).trans h.f2, (f _).trans h.f3, (f' _).trans h.f4⟩
theorem RsV.below (h : RsV w x0 x1 x2 x3 cd A) (k : Below A.heap.size A Z) : RsV w x0 x1 x2 x3 cd Z :=
 have hl := h.lt
 h.keep (h.be.trans (k.mono h.be.size)) k.size (k.block _ (by omega)) (k.block _ (by omega))
theorem RsV.low {B : Nat} (h : RsV w x0 x1 x2 x3 cd A) (k : Below B A Z) (hB : w.heap.size + 4 ≤ B) : RsV w x0 x1 x2 x3 cd Z :=
 h.keep (h.be.trans (k.mono (by omega))) k.size (k.block _ (by omega)) (k.block _ (by omega))
theorem RsV.of_out {B : Nat} {K : Cfg} (h : RsV w x0 x1 x2 x3 cd A) (k : Out B K A Z) (hB : w.heap.size + 4 ≤ B) (b0 : w.heap.size + 4 ≤ K.b) (b1 : w.heap.size + 4 ≤ K.g1) (b2 : w.heap.size + 4 ≤ K.g2) : RsV w x0 x1 x2 x3 cd Z :=
 h.keep ⟨k.os.trans h.be.os, k.tape.trans h.be.tape, k.output.trans h.be.output, Nat.le_trans h.be.size k.size, fun i hi => (k.keep i (by omega) (by omega) (by omega) (by omega)).trans (h.be.block i hi)⟩ k.size (k.keep _ (by omega) (by omega) (by omega) (by omega)) (k.keep _ (by omega) (by omega) (by omega) (by omega))
theorem RsV.set (h : RsV w x0 x1 x2 x3 cd A) (y0 y1 y2 y3 : Value) (cd' : Int) : RsV w y0 y1 y2 y3 cd' (((((A.setCell ⟨w.heap.size + 1 + 1, 0, none⟩ y0).setCell ⟨w.heap.size + 1 + 1, 1, none⟩ y1).setCell ⟨w.heap.size + 1 + 1, 2, none⟩ y2).setCell ⟨w.heap.size + 1 + 1, 3, none⟩ y3).setCell ⟨w.heap.size + 1 + 1 + 1, 0, none⟩ (.int .i64 cd')) := by
 obtain ⟨hb, hl, c0, c1, c2, c3, c4, f0, f1, f2, f3, f4⟩ := h
 exact ⟨((((hb.setCell (p := ⟨w.heap.size + 1 + 1, 0, none⟩) (by show w.heap.size ≤ w.heap.size + 1 + 1; omega) _).setCell (p := ⟨w.heap.size + 1 + 1, 1, none⟩) (by show w.heap.size ≤ w.heap.size + 1 + 1; omega) _).setCell (p := ⟨w.heap.size + 1 + 1, 2, none⟩) (by show w.heap.size ≤ w.heap.size + 1 + 1; omega) _).setCell (p := ⟨w.heap.size + 1 + 1, 3, none⟩) (by show w.heap.size ≤ w.heap.size + 1 + 1; omega) _).setCell (p := ⟨w.heap.size + 1 + 1 + 1, 0, none⟩) (by show w.heap.size ≤ w.heap.size + 1 + 1 + 1; omega) _,
  by simpa using hl, by go_simp, by go_simp, by go_simp, by go_simp, by go_simp, by go_simp, by go_simp, by go_simp, by go_simp, by go_simp⟩
end
theorem above_rs {w A : World} {B : Nat} (hB : w.heap.size + 4 ≤ B) (y0 y1 y2 y3 y4 : Value) : Above B A (((((A.setCell ⟨w.heap.size + 1 + 1, 0, none⟩ y0).setCell ⟨w.heap.size + 1 + 1, 1, none⟩ y1).setCell ⟨w.heap.size + 1 + 1, 2, none⟩ y2).setCell ⟨w.heap.size + 1 + 1, 3, none⟩ y3).setCell ⟨w.heap.size + 1 + 1 + 1, 0, none⟩ y4) :=
 ((((Above.setCell (by show w.heap.size + 1 + 1 < B; omega) _).trans (Above.setCell (by show w.heap.size + 1 + 1 < B; omega) _)).trans (Above.setCell (by show w.heap.size + 1 + 1 < B; omega) _)).trans (Above.setCell (by show w.heap.size + 1 + 1 < B; omega) _)).trans (Above.setCell (by show w.heap.size + 1 + 1 + 1 < B; omega) _)
theorem rec_rs {w A : World} {L D : Nat} {r : Loop} {x0 x1 x2 x3 : Value} {cd : Int} (h : RecAt A L D r) (k : RsV w x0 x1 x2 x3 cd A) (y0 y1 y2 y3 y4 : Value) : RecAt (((((A.setCell ⟨w.heap.size + 1 + 1, 0, none⟩ y0).setCell ⟨w.heap.size + 1 + 1, 1, none⟩ y1).setCell ⟨w.heap.size + 1 + 1, 2, none⟩ y2).setCell ⟨w.heap.size + 1 + 1, 3, none⟩ y3).setCell ⟨w.heap.size + 1 + 1 + 1, 0, none⟩ y4) L D r := by
 obtain ⟨hb, hl, c0, c1, c2, c3, c4, f0, f1, f2, f3, f4⟩ := k
 exact ((((h.setCell c0 y0).setCell (v := x1) (by go_simp) y1).setCell (v := x2) (by go_simp) y2).setCell (v := x3) (by go_simp) y3).setCell (v := .int .i64 cd) (by go_simp) y4
theorem rv_new (p s c l : Int) (st sk re fe ag : Bool) (p1 p2 : Option Addr) (pn1 pc1 pn2 pc2 : Nat) (pp : Int) (w : World) (T U V S : TypeId) : RsV w (.slice none 0 0) (.slice none 0 0) (.int .i64 0) (.int .i64 0) 0 ((((w.alloc (.cells #[.int .i64 p, .int .i64 s, .bool st, .bool sk, .bool re, .bool fe, .bool ag, .int .i64 c, .int .i64 l] T)).alloc (.cells #[.slice p1 pn1 pc1, .slice p2 pn2 pc2, .int .i64 pp] U)).alloc (.cells #[.slice none 0 0, .slice none 0 0, .int .i64 0, .int .i64 0] V)).alloc (.cells #[.int .i64 0] S)) :=
 ⟨((((Below.refl _ _).alloc (Nat.le_refl _) _).alloc (by simp) _).alloc (by simp; omega) _).alloc (by simp; omega) _, by simp, by go_simp, by go_simp, by go_simp, by go_simp, by go_simp, by go_simp, by go_simp, by go_simp, by go_simp, by go_simp⟩
theorem sw_new (K : Cfg) (ha la lp : Int) (xs ys : List Int) (u : World) (T : TypeId) (hb : K.b = u.heap.size) (o1 : OutN u K.B (some ⟨K.g1, 0, none⟩) K.g1 xs) (o2 : OutN u K.B (some ⟨K.g2, 0, none⟩) K.g2 ys) (l1 : xs.length = K.n1) (l2 : ys.length = 2) (d3 : K.g1 ≠ K.g2) (h1 : K.g1 < u.heap.size) (h2 : K.g2 < u.heap.size) :
  SwS (u.alloc (.cells #[.int .i64 K.p, .int .i64 K.s, .bool K.st, .bool K.sk, .bool K.re, .bool K.fe, .bool K.ag, .int .i64 K.c, .int .i64 K.l, .int .i64 K.pl, .int .i64 K.fi, .int .i64 ha, .slice (some ⟨K.g1, 0, none⟩) K.n1 K.c1, .slice (some ⟨K.g2, 0, none⟩) 2 K.c2, .int .i64 la, .int .i64 lp] T)) K ha la lp xs ys :=
 ⟨by rw [hb]; simp, by rw [hb]; go_simp, by rw [hb]; go_simp, by rw [hb]; go_simp, by rw [hb]; go_simp, by rw [hb]; go_simp, by rw [hb]; go_simp, by rw [hb]; go_simp, by rw [hb]; go_simp, by rw [hb]; go_simp, by rw [hb]; go_simp, by rw [hb]; go_simp, by rw [hb]; go_simp, by rw [hb]; go_simp, by rw [hb]; go_simp, by rw [hb]; go_simp, by rw [hb]; go_simp,
  fun o => by rw [hb]; go_simp, o1.below (al1 _ _), o2.below (al1 _ _), l1, l2, by omega, by omega, d3, by simp; omega, by simp; omega⟩
theorem keep_rs {w A : World} {k : Nat} (hk : w.heap.size + 4 ≤ k) (y0 y1 y2 y3 y4 : Value) : (((((A.setCell ⟨w.heap.size + 1 + 1, 0, none⟩ y0).setCell ⟨w.heap.size + 1 + 1, 1, none⟩ y1).setCell ⟨w.heap.size + 1 + 1, 2, none⟩ y2).setCell ⟨w.heap.size + 1 + 1, 3, none⟩ y3).setCell ⟨w.heap.size + 1 + 1 + 1, 0, none⟩ y4).heap[k]? = A.heap[k]? :=
 ((((Below.heap_setCell _ ⟨w.heap.size + 1 + 1 + 1, 0, none⟩ _ k (by show k ≠ w.heap.size + 1 + 1 + 1; omega)).trans (Below.heap_setCell _ ⟨w.heap.size + 1 + 1, 3, none⟩ _ k (by show k ≠ w.heap.size + 1 + 1; omega))).trans (Below.heap_setCell _ ⟨w.heap.size + 1 + 1, 2, none⟩ _ k (by show k ≠ w.heap.size + 1 + 1; omega))).trans (Below.heap_setCell _ ⟨w.heap.size + 1 + 1, 1, none⟩ _ k (by show k ≠ w.heap.size + 1 + 1; omega))).trans (Below.heap_setCell _ ⟨w.heap.size + 1 + 1, 0, none⟩ _ k (by show k ≠ w.heap.size + 1 + 1; omega))
theorem RecAt.of_out {A Z : World} {B L D : Nat} {K : Cfg} {r : Loop} (h : RecAt A L D r) (k : Out B K A Z) (hL : L < B) (hD : D < B) (b0 : K.b < D) (b1 : K.g1 < D) (b2 : K.g2 < D) (hDL : D < L) : RecAt Z L D r :=
 ⟨(k.keep L hL (by omega) (by omega) (by omega)).trans h.1, (k.keep D hD (by omega) (by omega) (by omega)).trans h.2⟩
structure MoJ (w : World) (K : Cfg) (MV : Option Res) (L D : Nat) (R : LoopState → Option Code → Loop) (s : Stg) (i : Nat) (A : World) : Prop where
 rs : RsV w (.slice none 0 0) (.slice none 0 0) (.int .i64 0) (.int .i64 0) 0 A
 mv : mvF K.R (100 - s.j) s.xs s.ys s.f s.j s.path = MV
 rc : RecAt A L D (R .ready none)
structure MoX (w : World) (MV : Option Res) (L D : Nat) (R : LoopState → Option Code → Loop) (Z : World) : Prop where
 rs : RsV w (.slice none 0 0) (.slice none 0 0) (.int .i64 0) (.int .i64 0) 10 Z
 mv : MV = none
 rc : RecAt Z L D (R .done (some .ret))
theorem mv_next {R : Rl} {s : Stg} {MV : Option Res} (hj : s.j < 100) (ha : agn R s.xs s.f = true) (h : mvF R (100 - s.j) s.xs s.ys s.f s.j s.path = MV) : mvF R (100 - (s.next R).j) (s.next R).xs (s.next R).ys (s.next R).f (s.next R).j (s.next R).path = MV := by
 obtain ⟨m, hm⟩ : ∃ m, 100 - s.j = m + 1 := ⟨99 - s.j, by omega⟩
 rw [hm, mvF_yes ha] at h
 have e : 100 - (s.next R).j = m := by show 100 - (s.j + 1) = m; omega
 rw [e]
 exact h
theorem mv_last {R : Rl} {s : Stg} {MV : Option Res} (hj : s.j < 100) (ha : agn R s.xs s.f = false) (h : mvF R (100 - s.j) s.xs s.ys s.f s.j s.path = MV) : MV = some ⟨cx R s.xs s.f s.n, cy R s.ys s.f s.n, lst R s.xs s.f, s.j + 1, s.path ++ lapP R s.f s.n⟩ := by
 obtain ⟨m, hm⟩ : ∃ m, 100 - s.j = m + 1 := ⟨99 - s.j, by omega⟩
 rw [hm, mvF_no ha] at h
 exact h.symm
theorem mv_end {R : Rl} {s : Stg} {MV : Option Res} (hj : ¬ s.j < 100) (h : mvF R (100 - s.j) s.xs s.ys s.f s.j s.path = MV) : MV = none := by
 rw [show 100 - s.j = 0 by omega] at h
 exact h.symm
end Go.Proofs.YtgbaneildbdgdaaGreat
