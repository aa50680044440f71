/- The fields in which two rules differ: the row of their names that the program makes, and the reference's. No conditions. -/
import Derived.Test.YtihbaehfgjkajaaDoorElem
import Derived.Test.YtihbaehfgjkajaaDoorFNames
import Derived.Deep.RegionHeld3
namespace Go.Proofs.YtihbaehfgjkajaaDoor
open Go.Joins Go.ChangeShapes Go.WideShapes Go.ChangeAt Go.RowKit Go.Deep
set_option linter.unusedVariables false

/-- The names of the first k fields in which two rules differ. -/
def diffK (a b : RV) (k : Nat) : List ByteArray := ((List.range k).filter fun i => a.nth i != b.nth i).map fun i => flds.getD i ⟨#[]⟩
theorem diffK_ne {a b : RV} {k : Nat} {x : ByteArray} (h : (a.nth k != b.nth k) = true) (hx : flds[k]? = some x) : diffK a b (k + 1) = diffK a b k ++ [x] := by
  unfold diffK
  rw [List.range_succ, List.filter_append, List.map_append]
  congr 1
  simp [List.filter, h, hx]
theorem diffK_eq {a b : RV} {k : Nat} (h : (a.nth k != b.nth k) = false) : diffK a b (k + 1) = diffK a b k := by
  unfold diffK
  rw [List.range_succ, List.filter_append, List.map_append]
  simp [List.filter, h]
theorem diffK_len (a b : RV) (k : Nat) : (diffK a b k).length ≤ k := by
  unfold diffK
  rw [List.length_map]
  exact Nat.le_trans (List.length_filter_le _ _) (by simp)
def RV.At (r : RV) (w : World) (b : Nat) : Prop := RulesAt w b r.p r.s r.c r.l r.st r.sk r.re r.fe r.ag
def RV.ok (r : RV) : Bool := okR r.p r.s r.c r.l r.st r.ag
/-- What stays while the fields of two rules are compared. -/
def SS (W : World) (ba bb : Nat) (a b : RV) (w : World) : Prop := a.At w ba ∧ b.At w bb ∧ Below W.heap.size W w
theorem SS.step {W : World} {ba bb : Nat} {a b : RV} {w w' : World} (h : SS W ba bb a b w) (k : Below w.heap.size w w') : SS W ba bb a b w' :=
  ⟨RulesAt.below h.1 k, RulesAt.below h.2.1 k, h.2.2.trans (k.mono h.2.2.size)⟩
theorem SS.drew {W : World} {ba bb : Nat} {a b : RV} {w : World} (h : SS W ba bb a b w) : SS W ba bb a b w.drew := ⟨h.1, h.2.1, h.2.2.drew⟩
theorem RV.At.drew {r : RV} {w : World} {b : Nat} (h : r.At w b) : r.At w.drew b := h

theorem svs_add (xs : List ByteArray) (x : ByteArray) : svs (xs ++ [x]) = svs xs ++ [.string x] := by simp [svs]
/-- A row of texts of its own, and a code. -/
def DiffP (ok : Bool) (xs : List ByteArray) (w : World) (e : Ending) (w' : World) : Prop :=
  ∃ v, e = .returned (.tuple #[v, .int .i64 (if ok then 0 else 1)]) ∧ w'.ownsRow w.heap.size 9 1 v (if ok then xs else []).length (svs (if ok then xs else [])) ∧ Below w.heap.size w w'
theorem own_base {w : World} {B B' e n : Nat} {v : Value} {xs : List Value} (h : w.ownsRow B e 1 v n xs) (k : B' ≤ B) : w.ownsRow B' e 1 v n xs := by
  obtain ⟨h1, h2 | ⟨g2, cap2, cur, hv2, hb2, hr⟩⟩ := h
  · exact ⟨h1, .inl h2⟩
  · exact ⟨h1, .inr ⟨g2, cap2, cur, hv2, Nat.le_trans k hb2, hr⟩⟩
theorem own_below {w w' : World} {B e n : Nat} {v : Value} {xs : List Value} (h : w.ownsRow B e 1 v n xs) (k : Below w.heap.size w w') : w'.ownsRow B e 1 v n xs := by
  obtain ⟨h1, h2 | ⟨g2, cap2, cur, hv2, hb2, hg, hr⟩⟩ := h
  · exact ⟨h1, .inl h2⟩
  · exact ⟨h1, .inr ⟨g2, cap2, cur, hv2, hb2, by rw [k.block g2 (Array.getElem?_eq_some_iff.1 hg).1]; exact hg, hr⟩⟩

theorem rv_new (r : RV) (w : World) (T : TypeId) : r.At (w.alloc (.cells #[.int .i64 r.p, .int .i64 r.s, .bool r.st, .bool r.sk, .bool r.re, .bool r.fe, .bool r.ag, .int .i64 r.c, .int .i64 r.l] T)) w.heap.size := rules_new _ _ _ _ _ _ _ _ _ w T
theorem valid_rv (r : RV) (w : World) : Calls Tryd.prog 41 #[.agg #[.int .i64 r.p, .int .i64 r.s, .bool r.st, .bool r.sk, .bool r.re, .bool r.fe, .bool r.ag, .int .i64 r.c, .int .i64 r.l]] w fun e w' => e = .returned (.bool r.ok) ∧ Below w.heap.size w w' := valid_any _ _ _ _ _ _ _ _ _ w

set_option maxHeartbeats 8000000 in
set_option maxRecDepth 100000 in
theorem impl_diff (a b : RV) (w : World) : Calls Tryd.prog 15 #[a.val, b.val] w (DiffP (a.ok && b.ok) (diffK a b 9) w) := by
  unfold RV.val
  obtain ⟨i0, hi, hz0, hz1, hz2⟩ := info_parts infoS
  rcases hoa : a.ok with _ | _
  · have Hoa := Lib.hid hoa
    clear hoa
    go_enter Tryd.func15, Tryd.ntmps15
    go_wp2_with (go_at_call 41; refine (valid_rv a _).mono ?_; rintro e w1 ⟨rfl, hb1⟩; obtain ⟨hc1, hf1⟩ := bcell hb1; have hs1 := hb1.size; (try simp at hs1); (try have hz1 : w.heap.size < w1.heap.size := by omega); (try have hy1 : w.heap.size + 1 < w1.heap.size := by omega); (try have hx1 := fun o => hc1 w.heap.size o (by first | omega | (simp; done) | (simp; omega))); (try have hv1 := fun o => hc1 (w.heap.size + 1) o (by first | omega | (simp; done) | (simp; omega))); rw [Hoa.out])
    go_ret2
    exact ⟨_, rfl, World.ownsRow_nil _ _ _ _, (by repeat (first | exact Below.refl _ _ | assumption | (refine Below.drew ?_) | (refine Below.setCell ?_ (by first | omega | (simp; done) | (simp; omega)) _) | (refine Below.alloc ?_ (by first | omega | (simp; done) | (simp; omega)) _) | (refine Below.trans ?_ (Below.mono (by assumption) (by first | omega | (simp; done) | (simp; omega))))))⟩
  · rcases hob : b.ok with _ | _
    · have Hoa := Lib.hid hoa
      have Hob := Lib.hid hob
      clear hoa hob
      have RA := Lib.hid (rv_new a w 25)
      have HB0 := Lib.hid (((Below.refl w.heap.size w).alloc (Nat.le_refl _) (.cells #[.int .i64 a.p, .int .i64 a.s, .bool a.st, .bool a.sk, .bool a.re, .bool a.fe, .bool a.ag, .int .i64 a.c, .int .i64 a.l] 25)).alloc (by simp) (.cells #[.int .i64 b.p, .int .i64 b.s, .bool b.st, .bool b.sk, .bool b.re, .bool b.fe, .bool b.ag, .int .i64 b.c, .int .i64 b.l] 25))
      have RB := Lib.hid (rv_new b (w.alloc (.cells #[.int .i64 a.p, .int .i64 a.s, .bool a.st, .bool a.sk, .bool a.re, .bool a.fe, .bool a.ag, .int .i64 a.c, .int .i64 a.l] 25)) 25)
      go_enter Tryd.func15, Tryd.ntmps15
      go_wp2_with fail
      refine (valid_rv a _).mono ?_
      rintro e w1 ⟨rfl, hb1⟩
      rw [Hoa.out]
      have RB1 := RulesAt.below RB.out hb1
      have HB1 := Lib.hid (HB0.out.trans (hb1.mono (by simp; omega)))
      obtain ⟨hbk, d0, d1, d2, d3, d4, d5, d6, d7, d8⟩ := RB1
      simp only [World.size_alloc] at d0 d1 d2 d3 d4 d5 d6 d7 d8
      go_wp2_with fail
      refine (valid_rv b _).mono ?_
      rintro e w2 ⟨rfl, hb2⟩
      rw [Hob.out]
      have HB2 := Lib.hid (HB1.out.trans (hb2.mono HB1.out.size))
      clear d0 d1 d2 d3 d4 d5 d6 d7 d8
      go_wp2_with fail
      go_ret2
      exact ⟨_, rfl, World.ownsRow_nil _ _ _ _, HB2.out⟩
    · have Hoa := Lib.hid hoa
      have Hob := Lib.hid hob
      clear hoa hob
      have RA := Lib.hid (RulesAt.below (rv_new a w 25) ((Below.refl _ _).alloc (Nat.le_refl _) (.cells #[.int .i64 b.p, .int .i64 b.s, .bool b.st, .bool b.sk, .bool b.re, .bool b.fe, .bool b.ag, .int .i64 b.c, .int .i64 b.l] 25)))
      have HB0 := Lib.hid (((Below.refl w.heap.size w).alloc (Nat.le_refl _) (.cells #[.int .i64 a.p, .int .i64 a.s, .bool a.st, .bool a.sk, .bool a.re, .bool a.fe, .bool a.ag, .int .i64 a.c, .int .i64 a.l] 25)).alloc (by simp) (.cells #[.int .i64 b.p, .int .i64 b.s, .bool b.st, .bool b.sk, .bool b.re, .bool b.fe, .bool b.ag, .int .i64 b.c, .int .i64 b.l] 25))
      have RB := Lib.hid (rv_new b (w.alloc (.cells #[.int .i64 a.p, .int .i64 a.s, .bool a.st, .bool a.sk, .bool a.re, .bool a.fe, .bool a.ag, .int .i64 a.c, .int .i64 a.l] 25)) 25)
      go_enter Tryd.func15, Tryd.ntmps15
      go_wp2_with fail
      refine (valid_rv a _).mono ?_
      rintro e w1 ⟨rfl, hb1⟩
      rw [Hoa.out]
      have RA1 := Lib.hid (RulesAt.below RA.out hb1)
      have RB1 := RulesAt.below RB.out hb1
      have HB1 := Lib.hid (HB0.out.trans (hb1.mono (by simp; omega)))
      have RB1' := Lib.hid RB1
      obtain ⟨hbk, d0, d1, d2, d3, d4, d5, d6, d7, d8⟩ := RB1
      simp only [World.size_alloc] at d0 d1 d2 d3 d4 d5 d6 d7 d8
      go_wp2_with fail
      refine (valid_rv b _).mono ?_
      rintro e w2 ⟨rfl, hb2⟩
      rw [Hob.out]
      have RA2 := Lib.hid (RulesAt.below RA1.out hb2)
      have RB2 := Lib.hid (RulesAt.below RB1'.out hb2)
      have HB2 := Lib.hid (HB1.out.trans (hb2.mono HB1.out.size))
      clear d0 d1 d2 d3 d4 d5 d6 d7 d8
      go_wp2_with fail
      refine (fields_any _).mono ?_
      rintro e w3 ⟨g, cap, r0, r1, r7, r8, rfl, hb3, hlt, ht⟩
      have HS0 : Hid (SS w3 w.heap.size (w.heap.size + 1) a b w3) := Lib.hid ⟨RulesAt.below RA2.out hb3, by have := RulesAt.below RB2.out hb3; simp only [World.size_alloc] at this; exact this, Below.refl _ _⟩
      have HB3 := Lib.hid (HB2.out.trans (hb3.mono HB2.out.size))
      have HT := Lib.hid ht
      clear ht hb3 hb2 hb1 RA RB RA1 RB1' RA2 RB2
      go_wp2_with fail
      go_loopw [19, 6] (fun k v wr => ∃ n : Nat, n ≤ 9 ∧ k = .int .i64 n ∧ wr.ownsRow w3.heap.size 9 1 v (diffK a b n).length (svs (diffK a b n)) ∧ Below w3.heap.size w3 wr) (fun k _ _ => 9 - (intOf k).toNat)
      case atStart => exact ⟨0, by omega, rfl, World.ownsRow_nil _ _ _ _, Below.refl _ _⟩
      case round =>
        obtain ⟨n, hn, rfl, hown, hbl⟩ := hrel
        have HO := Lib.hid hown
        have HW := Lib.hid hbl
        have hsz := hbl.size
        have hlen := diffK_len a b n
        clear hown
        by_cases hl9 : n < 9
        · obtain ⟨T, u, x, c0, hx, hel⟩ := table_elem (HT.out.below hbl) n hl9
          have HX := Lib.hid hx
          obtain ⟨hnm, fv, hfv, hm, hv⟩ := hel
          have HN := Lib.hid hnm
          have HV := Lib.hid hv
          have hva : ∀ w, Calls Tryd.prog fv #[u, .agg #[.int .i64 a.p, .int .i64 a.s, .bool a.st, .bool a.sk, .bool a.re, .bool a.fe, .bool a.ag, .int .i64 a.c, .int .i64 a.l]] w fun e w' => e = .returned (.int .i64 (a.nth n)) ∧ Below w.heap.size w w' := hv a
          have hvb : ∀ w, Calls Tryd.prog fv #[u, .agg #[.int .i64 b.p, .int .i64 b.s, .bool b.st, .bool b.sk, .bool b.re, .bool b.fe, .bool b.ag, .int .i64 b.c, .int .i64 b.l]] w fun e w' => e = .returned (.int .i64 (b.nth n)) ∧ Below w.heap.size w w' := hv b
          have HVA := Lib.hid hva
          have HVB := Lib.hid hvb
          have HS : Hid (SS wr w.heap.size (w.heap.size + 1) a b wr) := Lib.hid ⟨RulesAt.below HS0.out.1 hbl, RulesAt.below HS0.out.2.1 hbl, Below.refl _ _⟩
          have hq : (n : Int) < 9 := by omega
          obtain ⟨va, eva⟩ : ∃ va, a.nth n = va := ⟨_, rfl⟩
          obtain ⟨vb, evb⟩ : ∃ vb, b.nth n = vb := ⟨_, rfl⟩
          have EA := Lib.hid eva
          have EB := Lib.hid evb
          clear hx hv hva hvb hnm hbl eva evb
          rcases hfv with rfl | rfl
          · rcases hd : (va != vb) with _ | _
            · go_wp2_with fail
              go_region_held3 (fun w' => (w.heap.size < w'.heap.size ∧ w'.cell? ⟨w.heap.size, 0, none⟩ = some (.int .i64 a.p) ∧ w'.cell? ⟨w.heap.size, 1, none⟩ = some (.int .i64 a.s) ∧ w'.cell? ⟨w.heap.size, 2, none⟩ = some (.bool a.st) ∧ w'.cell? ⟨w.heap.size, 3, none⟩ = some (.bool a.sk) ∧ w'.cell? ⟨w.heap.size, 4, none⟩ = some (.bool a.re) ∧ w'.cell? ⟨w.heap.size, 5, none⟩ = some (.bool a.fe) ∧ w'.cell? ⟨w.heap.size, 6, none⟩ = some (.bool a.ag) ∧ w'.cell? ⟨w.heap.size, 7, none⟩ = some (.int .i64 a.c) ∧ w'.cell? ⟨w.heap.size, 8, none⟩ = some (.int .i64 a.l)) ∧ (w.heap.size + 1 < w'.heap.size ∧ w'.cell? ⟨w.heap.size + 1, 0, none⟩ = some (.int .i64 b.p) ∧ w'.cell? ⟨w.heap.size + 1, 1, none⟩ = some (.int .i64 b.s) ∧ w'.cell? ⟨w.heap.size + 1, 2, none⟩ = some (.bool b.st) ∧ w'.cell? ⟨w.heap.size + 1, 3, none⟩ = some (.bool b.sk) ∧ w'.cell? ⟨w.heap.size + 1, 4, none⟩ = some (.bool b.re) ∧ w'.cell? ⟨w.heap.size + 1, 5, none⟩ = some (.bool b.fe) ∧ w'.cell? ⟨w.heap.size + 1, 6, none⟩ = some (.bool b.ag) ∧ w'.cell? ⟨w.heap.size + 1, 7, none⟩ = some (.int .i64 b.c) ∧ w'.cell? ⟨w.heap.size + 1, 8, none⟩ = some (.int .i64 b.l)) ∧ Below wr.heap.size wr w') (first | exact HS.out | exact HS.out.drew)
                (first
                | (go_at_call 139; refine (HVA.out _).mono ?_; rintro e w5 ⟨rfl, hb5⟩; rw [EA.out]; have HS := Lib.hid (by first | exact HS.out.step hb5 | exact HS.out.drew.step hb5 : SS wr w.heap.size (w.heap.size + 1) a b w5))
                | (go_at_call 139; refine (HVB.out _).mono ?_; rintro e w5 ⟨rfl, hb5⟩; rw [EB.out]; have HS := Lib.hid (by first | exact HS.out.step hb5 | exact HS.out.drew.step hb5 : SS wr w.heap.size (w.heap.size + 1) a b w5)))
              go_wp2_with fail
              go_roundw
              case rel =>
                have he : (a.nth n != b.nth n) = false := by rw [EA.out, EB.out]; exact hd
                exact ⟨n + 1, by omega, by go_num, by rw [diffK_eq he]; exact own_below HO.out HS.out.2.2, HW.out.trans (HS.out.2.2.mono HW.out.size)⟩
              case measure => simp [intOf]; omega
            · go_wp2_with fail
              go_region_held3 (fun w' => (w.heap.size < w'.heap.size ∧ w'.cell? ⟨w.heap.size, 0, none⟩ = some (.int .i64 a.p) ∧ w'.cell? ⟨w.heap.size, 1, none⟩ = some (.int .i64 a.s) ∧ w'.cell? ⟨w.heap.size, 2, none⟩ = some (.bool a.st) ∧ w'.cell? ⟨w.heap.size, 3, none⟩ = some (.bool a.sk) ∧ w'.cell? ⟨w.heap.size, 4, none⟩ = some (.bool a.re) ∧ w'.cell? ⟨w.heap.size, 5, none⟩ = some (.bool a.fe) ∧ w'.cell? ⟨w.heap.size, 6, none⟩ = some (.bool a.ag) ∧ w'.cell? ⟨w.heap.size, 7, none⟩ = some (.int .i64 a.c) ∧ w'.cell? ⟨w.heap.size, 8, none⟩ = some (.int .i64 a.l)) ∧ (w.heap.size + 1 < w'.heap.size ∧ w'.cell? ⟨w.heap.size + 1, 0, none⟩ = some (.int .i64 b.p) ∧ w'.cell? ⟨w.heap.size + 1, 1, none⟩ = some (.int .i64 b.s) ∧ w'.cell? ⟨w.heap.size + 1, 2, none⟩ = some (.bool b.st) ∧ w'.cell? ⟨w.heap.size + 1, 3, none⟩ = some (.bool b.sk) ∧ w'.cell? ⟨w.heap.size + 1, 4, none⟩ = some (.bool b.re) ∧ w'.cell? ⟨w.heap.size + 1, 5, none⟩ = some (.bool b.fe) ∧ w'.cell? ⟨w.heap.size + 1, 6, none⟩ = some (.bool b.ag) ∧ w'.cell? ⟨w.heap.size + 1, 7, none⟩ = some (.int .i64 b.c) ∧ w'.cell? ⟨w.heap.size + 1, 8, none⟩ = some (.int .i64 b.l)) ∧ Below wr.heap.size wr w') (first | exact HS.out | exact HS.out.drew)
                (first
                | (go_at_call 139; refine (HVA.out _).mono ?_; rintro e w5 ⟨rfl, hb5⟩; rw [EA.out]; have HS := Lib.hid (by first | exact HS.out.step hb5 | exact HS.out.drew.step hb5 : SS wr w.heap.size (w.heap.size + 1) a b w5))
                | (go_at_call 139; refine (HVB.out _).mono ?_; rintro e w5 ⟨rfl, hb5⟩; rw [EB.out]; have HS := Lib.hid (by first | exact HS.out.step hb5 | exact HS.out.drew.step hb5 : SS wr w.heap.size (w.heap.size + 1) a b w5)))
              have HO5 := Lib.hid (own_below HO.out HS.out.2.2)
              have HW5 := Lib.hid (HW.out.trans (HS.out.2.2.mono HW.out.size))
              have hz5 := HW5.out.size
              have hnm := HN.out
              go_wp2_with (first | (go_at_call 59; refine (name_any _ _).mono ?_; rintro e w6 ⟨rfl, rfl⟩) | (at_builtin; refine wpList_append_own _ rfl _ _ 32 rfl w3.heap.size 9 i0 (.string ⟨#[]⟩) 1 16 Tryd.underlying32 hi hz0 hz1 hz2 rfl (by decide) _ (diffK a b n).length _ rfl (HO5.out.alloc _) ⟨w5.heap.size, 0, none⟩ 1 1 [.string x] rfl rfl (alloc_cells (by simp) rfl) (by simp [Value.oneCell']) (by unfold maxLen; omega) (by omega) (by simp; omega) ?_; intro v' w7 hown1 hgrow1 hnil1))
              go_roundw
              case rel =>
                have he : (a.nth n != b.nth n) = true := by rw [EA.out, EB.out]; exact hd
                exact ⟨n + 1, by omega, by go_num, by rw [diffK_ne he HX.out, List.length_append, svs_add]; exact hown1, (HW5.out.alloc hz5 _).grown hgrow1 (by simp; omega) (fun q hq => (HO5.out.lt q hq).1)⟩
              case measure => simp [intOf]; omega
          · rcases hd : (va != vb) with _ | _
            · go_wp2_with fail
              go_region_held3 (fun w' => (w.heap.size < w'.heap.size ∧ w'.cell? ⟨w.heap.size, 0, none⟩ = some (.int .i64 a.p) ∧ w'.cell? ⟨w.heap.size, 1, none⟩ = some (.int .i64 a.s) ∧ w'.cell? ⟨w.heap.size, 2, none⟩ = some (.bool a.st) ∧ w'.cell? ⟨w.heap.size, 3, none⟩ = some (.bool a.sk) ∧ w'.cell? ⟨w.heap.size, 4, none⟩ = some (.bool a.re) ∧ w'.cell? ⟨w.heap.size, 5, none⟩ = some (.bool a.fe) ∧ w'.cell? ⟨w.heap.size, 6, none⟩ = some (.bool a.ag) ∧ w'.cell? ⟨w.heap.size, 7, none⟩ = some (.int .i64 a.c) ∧ w'.cell? ⟨w.heap.size, 8, none⟩ = some (.int .i64 a.l)) ∧ (w.heap.size + 1 < w'.heap.size ∧ w'.cell? ⟨w.heap.size + 1, 0, none⟩ = some (.int .i64 b.p) ∧ w'.cell? ⟨w.heap.size + 1, 1, none⟩ = some (.int .i64 b.s) ∧ w'.cell? ⟨w.heap.size + 1, 2, none⟩ = some (.bool b.st) ∧ w'.cell? ⟨w.heap.size + 1, 3, none⟩ = some (.bool b.sk) ∧ w'.cell? ⟨w.heap.size + 1, 4, none⟩ = some (.bool b.re) ∧ w'.cell? ⟨w.heap.size + 1, 5, none⟩ = some (.bool b.fe) ∧ w'.cell? ⟨w.heap.size + 1, 6, none⟩ = some (.bool b.ag) ∧ w'.cell? ⟨w.heap.size + 1, 7, none⟩ = some (.int .i64 b.c) ∧ w'.cell? ⟨w.heap.size + 1, 8, none⟩ = some (.int .i64 b.l)) ∧ Below wr.heap.size wr w') (first | exact HS.out | exact HS.out.drew)
                (first
                | (go_at_call 58; refine (HVA.out _).mono ?_; rintro e w5 ⟨rfl, hb5⟩; rw [EA.out]; have HS := Lib.hid (by first | exact HS.out.step hb5 | exact HS.out.drew.step hb5 : SS wr w.heap.size (w.heap.size + 1) a b w5))
                | (go_at_call 58; refine (HVB.out _).mono ?_; rintro e w5 ⟨rfl, hb5⟩; rw [EB.out]; have HS := Lib.hid (by first | exact HS.out.step hb5 | exact HS.out.drew.step hb5 : SS wr w.heap.size (w.heap.size + 1) a b w5)))
              go_wp2_with fail
              go_roundw
              case rel =>
                have he : (a.nth n != b.nth n) = false := by rw [EA.out, EB.out]; exact hd
                exact ⟨n + 1, by omega, by go_num, by rw [diffK_eq he]; exact own_below HO.out HS.out.2.2, HW.out.trans (HS.out.2.2.mono HW.out.size)⟩
              case measure => simp [intOf]; omega
            · go_wp2_with fail
              go_region_held3 (fun w' => (w.heap.size < w'.heap.size ∧ w'.cell? ⟨w.heap.size, 0, none⟩ = some (.int .i64 a.p) ∧ w'.cell? ⟨w.heap.size, 1, none⟩ = some (.int .i64 a.s) ∧ w'.cell? ⟨w.heap.size, 2, none⟩ = some (.bool a.st) ∧ w'.cell? ⟨w.heap.size, 3, none⟩ = some (.bool a.sk) ∧ w'.cell? ⟨w.heap.size, 4, none⟩ = some (.bool a.re) ∧ w'.cell? ⟨w.heap.size, 5, none⟩ = some (.bool a.fe) ∧ w'.cell? ⟨w.heap.size, 6, none⟩ = some (.bool a.ag) ∧ w'.cell? ⟨w.heap.size, 7, none⟩ = some (.int .i64 a.c) ∧ w'.cell? ⟨w.heap.size, 8, none⟩ = some (.int .i64 a.l)) ∧ (w.heap.size + 1 < w'.heap.size ∧ w'.cell? ⟨w.heap.size + 1, 0, none⟩ = some (.int .i64 b.p) ∧ w'.cell? ⟨w.heap.size + 1, 1, none⟩ = some (.int .i64 b.s) ∧ w'.cell? ⟨w.heap.size + 1, 2, none⟩ = some (.bool b.st) ∧ w'.cell? ⟨w.heap.size + 1, 3, none⟩ = some (.bool b.sk) ∧ w'.cell? ⟨w.heap.size + 1, 4, none⟩ = some (.bool b.re) ∧ w'.cell? ⟨w.heap.size + 1, 5, none⟩ = some (.bool b.fe) ∧ w'.cell? ⟨w.heap.size + 1, 6, none⟩ = some (.bool b.ag) ∧ w'.cell? ⟨w.heap.size + 1, 7, none⟩ = some (.int .i64 b.c) ∧ w'.cell? ⟨w.heap.size + 1, 8, none⟩ = some (.int .i64 b.l)) ∧ Below wr.heap.size wr w') (first | exact HS.out | exact HS.out.drew)
                (first
                | (go_at_call 58; refine (HVA.out _).mono ?_; rintro e w5 ⟨rfl, hb5⟩; rw [EA.out]; have HS := Lib.hid (by first | exact HS.out.step hb5 | exact HS.out.drew.step hb5 : SS wr w.heap.size (w.heap.size + 1) a b w5))
                | (go_at_call 58; refine (HVB.out _).mono ?_; rintro e w5 ⟨rfl, hb5⟩; rw [EB.out]; have HS := Lib.hid (by first | exact HS.out.step hb5 | exact HS.out.drew.step hb5 : SS wr w.heap.size (w.heap.size + 1) a b w5)))
              have HO5 := Lib.hid (own_below HO.out HS.out.2.2)
              have HW5 := Lib.hid (HW.out.trans (HS.out.2.2.mono HW.out.size))
              have hz5 := HW5.out.size
              have hnm := HN.out
              go_wp2_with (first | (go_at_call 59; refine (name_any _ _).mono ?_; rintro e w6 ⟨rfl, rfl⟩) | (at_builtin; refine wpList_append_own _ rfl _ _ 32 rfl w3.heap.size 9 i0 (.string ⟨#[]⟩) 1 16 Tryd.underlying32 hi hz0 hz1 hz2 rfl (by decide) _ (diffK a b n).length _ rfl (HO5.out.alloc _) ⟨w5.heap.size, 0, none⟩ 1 1 [.string x] rfl rfl (alloc_cells (by simp) rfl) (by simp [Value.oneCell']) (by unfold maxLen; omega) (by omega) (by simp; omega) ?_; intro v' w7 hown1 hgrow1 hnil1))
              go_roundw
              case rel =>
                have he : (a.nth n != b.nth n) = true := by rw [EA.out, EB.out]; exact hd
                exact ⟨n + 1, by omega, by go_num, by rw [diffK_ne he HX.out, List.length_append, svs_add]; exact hown1, (HW5.out.alloc hz5 _).grown hgrow1 (by simp; omega) (fun q hq => (HO5.out.lt q hq).1)⟩
              case measure => simp [intOf]; omega
        · obtain rfl : n = 9 := by omega
          go_wp2_with fail
          go_ret2
          exact ⟨_, rfl, own_base HO.out HB3.out.size, HB3.out.trans (HW.out.mono HB3.out.size)⟩
end Go.Proofs.YtihbaehfgjkajaaDoor
