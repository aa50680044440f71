/- The position at the beginning: the reference's. No conditions. -/
import Derived.Test.YtgogjjkecbgbiaaView4
import Derived.Test.YtgogjjkecbgbiaaTurn4
import Derived.Deep.DeepCutAuto
namespace Go.Proofs.Ytgogjjkecbgbiaa
open Go.Joins Go.ChangeShapes Go.WideShapes Go.ChangeAt Go.RowKit Go.Deep
set_option linter.unusedVariables false

/-- A position of a call's own whose stores have no room. -/
def PosQ2 (n1 : Nat) (pl : Int) (xs ys : List Int) (w : World) (e : Ending) (w' : World) : Prop :=
  ∃ g1 c1 g2, e = .returned (.agg #[.slice (some ⟨g1, 0, none⟩) n1 c1, .slice (some ⟨g2, 0, none⟩) 2 2, .int .i64 pl]) ∧ PosO w' w.heap.size (some ⟨g1, 0, none⟩) (some ⟨g2, 0, none⟩) g1 g2 n1 2 xs ys ∧ g1 < w'.heap.size ∧ g2 < w'.heap.size ∧ n1 ≤ c1 ∧ Below w.heap.size w w'
/-- A new row of one number. -/
theorem out_one (u : World) (x : Int) (T : TypeId) : OutN (u.alloc (.cells #[.int .i64 x] T)) u.heap.size (some ⟨u.heap.size, 0, none⟩) u.heap.size [x] :=
  ⟨⟨by simp, .inr ⟨u.heap.size, 0, rfl, by simp, fun i z hi => by
    match i, hi with
    | 0, hi =>
      cases hi
      rw [World.cell?_alloc_new]
      rfl⟩⟩, fun _ _ e => by cases e; rfl, Nat.le_refl _, fun _ => ⟨by simp, fun o => by go_simp⟩⟩
theorem own_set {u : World} {B e n : Nat} {v : Value} {xs : List Value} (h : u.ownsRow B e 1 v n xs) {q : Addr} (hq : q.block < B) (x : Value) : (u.setCell q x).ownsRow B e 1 v n xs := by
  obtain ⟨h1, h2 | ⟨g, cap, cur, hv, hb, hg, hr⟩⟩ := h
  · exact ⟨h1, .inl h2⟩
  · exact ⟨h1, .inr ⟨g, cap, cur, hv, hb, by rw [Below.heap_setCell u q x g (by omega)]; exact hg, hr⟩⟩
/-- A position that is being made: its pits grow. -/
structure Grow (w u : World) (x : Int) (v : Value) (k : Nat) : Prop where
  on : OnW w u
  big : w.heap.size + 3 ≤ u.heap.size
  c0 : u.cell? ⟨w.heap.size + 1 + 1, 0, none⟩ = some v
  c1 : u.cell? ⟨w.heap.size + 1 + 1, 1, none⟩ = some (.slice (some ⟨w.heap.size + 1, 0, none⟩) 2 2)
  c2 : u.cell? ⟨w.heap.size + 1 + 1, 2, none⟩ = some (.int .i64 0)
  fr : ∀ o, u.frozen? ⟨w.heap.size + 1 + 1, o, none⟩ = false
  row : u.ownsRow (w.heap.size + 3) 2 1 v k (nvs (List.replicate k x))
  st : OutN u (w.heap.size + 1) (some ⟨w.heap.size + 1, 0, none⟩) (w.heap.size + 1) [0, 0]
  z : ZeroP u w.heap.size
theorem Grow.below {w u u' : World} {x : Int} {v : Value} {k : Nat} (h : Grow w u x v k) (hb : Below u.heap.size u u') : Grow w u' x v k :=
  have hbig := h.big
  have e := fun o => hb.cell (p := ⟨w.heap.size + 1 + 1, o, none⟩) (by show w.heap.size + 1 + 1 < _; omega)
  ⟨h.on.below hb, Nat.le_trans h.big hb.size, (e 0).trans h.c0, (e 1).trans h.c1, (e 2).trans h.c2, fun o => (hb.frozen (p := ⟨w.heap.size + 1 + 1, o, none⟩) (by show w.heap.size + 1 + 1 < _; omega)).trans (h.fr o), own_keep h.row hb, h.st.below hb, h.z.below hb⟩
theorem Grow.drew {w u : World} {x : Int} {v : Value} {k : Nat} (h : Grow w u x v k) : Grow w u.drew x v k := h.below (Below.refl _ _).drew
theorem Grow.at {w u u' : World} {x : Int} {v : Value} {k : Nat} {row : Option Nat} (h : Grow w u x v k) (hg : u.grownBy u' row) (hl : ∀ j, row = some j → w.heap.size + 3 ≤ j) :
    u'.cell? ⟨w.heap.size + 1 + 1, 0, none⟩ = some v ∧ u'.frozen? ⟨w.heap.size + 1 + 1, 0, none⟩ = false ∧ w.heap.size + 1 + 1 < u'.heap.size := by
  have hbig := h.big
  have hsz := hg.size
  have hb := hg.block (w.heap.size + 1 + 1) (by omega) (fun e => by have := hl _ e.symm; omega)
  exact ⟨(World.cell?_of_block (a := ⟨w.heap.size + 1 + 1, 0, none⟩) hb).trans h.c0, (World.frozen?_of_block (a := ⟨w.heap.size + 1 + 1, 0, none⟩) hb).trans (h.fr 0), by omega⟩
/-- The pits have grown by one, and their new slice is stored. -/
theorem Grow.next {w u u' : World} {x : Int} {v v' : Value} {k : Nat} {row : Option Nat} (h : Grow w u x v k) (hg : u.grownBy u' row) (hl : ∀ j, row = some j → w.heap.size + 3 ≤ j) (hown : u'.ownsRow (w.heap.size + 3) 2 1 v' (k + 1) (nvs (List.replicate k x ++ [x]))) :
    Grow w (u'.setCell ⟨w.heap.size + 1 + 1, 0, none⟩ v') x v' (k + 1) := by
  have hbig := h.big
  have hsz := hg.size
  have hV : w.heap.size + 1 + 1 < u.heap.size := by omega
  have hb := hg.block (w.heap.size + 1 + 1) hV (fun e => by have := hl _ e.symm; omega)
  have ec : ∀ o, u'.cell? ⟨w.heap.size + 1 + 1, o, none⟩ = u.cell? ⟨w.heap.size + 1 + 1, o, none⟩ := fun o => World.cell?_of_block (a := ⟨w.heap.size + 1 + 1, o, none⟩) hb
  have ef : ∀ o, u'.frozen? ⟨w.heap.size + 1 + 1, o, none⟩ = u.frozen? ⟨w.heap.size + 1 + 1, o, none⟩ := fun o => World.frozen?_of_block (a := ⟨w.heap.size + 1 + 1, o, none⟩) hb
  have c0 := (ec 0).trans h.c0
  have c1 := (ec 1).trans h.c1
  have c2 := (ec 2).trans h.c2
  have f0 := (ef 0).trans (h.fr 0)
  have fo := fun o => (ef o).trans (h.fr o)
  clear ec ef hb
  have hon : OnW w u' := Below.grown h.on hg (by have := Below.size h.on; omega) (fun j hj => by have := hl j hj; omega)
  refine ⟨Below.setCell hon (p := ⟨w.heap.size + 1 + 1, 0, none⟩) (by show w.heap.size ≤ w.heap.size + 1 + 1; omega) _, by simp; omega, by go_simp, by go_simp, by go_simp, fun o => ?_, ?_, ?_, ?_⟩
  · have := fo o
    clear fo
    go_simp
  · rw [List.replicate_succ']
    exact own_set hown (by show w.heap.size + 1 + 1 < w.heap.size + 3; omega) _
  · exact (h.st.grown hg (fun j hj => by have := hl j hj; omega)).setCell (p := ⟨w.heap.size + 1 + 1, 0, none⟩) (by show w.heap.size + 1 ≠ w.heap.size + 1 + 1; omega) _
  · exact (h.z.grown hg (fun j hj => by have := hl j hj; omega)).but ((But.refl (w.heap.size + 1 + 1) u').setCell (p := ⟨w.heap.size + 1 + 1, 0, none⟩) rfl _) (by omega)
set_option maxHeartbeats 4000000 in
set_option maxRecDepth 100000 in
theorem l04Start2_any (P : Nat) (s c l : Int) (st sk re fe ag : Bool) (b : Nat) (w : World) (hr : RuAt w b (P : Int) s c l st sk re fe ag) (hP : 2 ≤ P) (hP2 : P ≤ 8) :
    Calls Try.prog 57 #[.pointer (some ⟨b, 0, none⟩)] w (PosQ2 (2 * P) 0 (List.replicate (2 * P) s) [0, 0] w) := by
  obtain ⟨i0, hi, hz0, hz1, hz2⟩ := info_parts infoN
  have HR := Lib.hid hr
  clear hr
  have hG : Grow w (((w.alloc (.cells #[.slice none 0 0, .slice none 0 0, .int .i64 0] 28)).alloc (.cells #[.int .i64 0, .int .i64 0] 2)).alloc (.cells #[.slice none 0 0, .slice (some ⟨w.heap.size + 1, 0, none⟩) 2 2, .int .i64 0] 28)) s (.slice none 0 0) 0 := by
    have h2 := out_two (w.alloc (.cells #[.slice none 0 0, .slice none 0 0, .int .i64 0] 28)) 0 0 2
    rw [show (w.alloc (.cells #[.slice none 0 0, .slice none 0 0, .int .i64 0] 28)).heap.size = w.heap.size + 1 by simp] at h2
    refine ⟨((Below.refl _ _).alloc (Nat.le_refl _) _).alloc (by simp) _ |>.alloc (by simp; omega) _, by simp, by go_simp, by go_simp, by go_simp, fun o => by go_simp, World.ownsRow_nil _ _ _ _, h2.below (al1 _ _), ((zero_new w 28).below (al1 _ _)).below (al1 _ _)⟩
  have HG := Lib.hid hG
  clear hG
  go_enter Try.func57, Try.ntmps57
  go_wp2_with fail
  go_loopw [4] (fun i wr => ∃ (k : Nat) (v : Value), k ≤ 2 * P ∧ i = .int .i64 k ∧ Grow w wr s v k) (fun i _ => 2 * P - (intOf i).toNat)
  case atStart => exact ⟨0, _, Nat.zero_le _, rfl, HG.out⟩
  case round =>
    obtain ⟨k, v, hk, rfl, hg⟩ := hrel
    have HG := Lib.hid hg
    obtain ⟨hbd, r0, r1, -⟩ := HR.out.below hg.on
    have g0 := hg.c0
    have g1 := hg.c1
    have g2 := hg.c2
    clear hg
    by_cases hlt : k < 2 * P
    · have p0 : (k : Int) < 2 * (P : Int) := by omega
      have hl := HG.out.row.lt
      have f0 := HG.out.fr 0
      have hbig := HG.out.big
      have hV : w.heap.size + 1 + 1 < wr.heap.size := by omega
      have HL := Lib.hid hl
      clear hl g1 g2 hbd r0 r1
      have HT : Hid (∀ u : World, Below w.heap.size w u → (b < u.heap.size ∧ u.cell? ⟨b, 0, none⟩ = some (.int .i64 (P : Int)) ∧ u.cell? ⟨b, 1, none⟩ = some (.int .i64 s) ∧ u.cell? ⟨b, 2, none⟩ = some (.bool st) ∧ u.cell? ⟨b, 3, none⟩ = some (.bool sk) ∧ u.cell? ⟨b, 4, none⟩ = some (.bool re) ∧ u.cell? ⟨b, 5, none⟩ = some (.bool fe) ∧ u.cell? ⟨b, 6, none⟩ = some (.bool ag) ∧ u.cell? ⟨b, 7, none⟩ = some (.int .i64 c) ∧ u.cell? ⟨b, 8, none⟩ = some (.int .i64 l)) ∧ Below w.heap.size w u) := Lib.hid (fun u h => ⟨HR.out.below h, h⟩)
      obtain ⟨hbd, r0, r1, -⟩ := HR.out.below HG.out.on
      go_upto_region 5 with fail
      clear r0
      go_region_law
        ((refine step_append_lies _ rfl _ _ 26 rfl (w.heap.size + 3) 2 i0 (.int .i64 0) 1 8 Try.underlying26 hi hz0 hz1 hz2 rfl (by decide) v k (nvs (List.replicate k s)) rfl (by first | exact (HG.out.drew.below (al1 _ _)).row | exact (HG.out.below (al1 _ _)).drew.row) ⟨wr.heap.size, 0, none⟩ 1 1 (nvs [s]) rfl (by simp [nvs]) (by first | exact row_news (out_one wr.drew s 2).row | exact row_news (out_one wr s 2).drew.row) (nvs_cell _) (by omega) (by unfold maxLen; omega) (by omega) (by simp; omega) _ rfl ?_; intro gg cap w6 hown hgrow hat hlt6; (rw [← nvs_app] at hown); have HO := Lib.hid hown; have HGr := Lib.hid hgrow; (have hat6 := Grow.at (by first | exact HG.out.drew.below (al1 _ _) | exact (HG.out.below (al1 _ _)).drew) hgrow (fun j hj => (HL.out j hj).1)); (obtain ⟨a0, af, al⟩ := hat6); have HA : Hid (OnW w w6) := Lib.hid (by first | exact Below.grown (HG.out.on.drew.below (al1 _ _)) hgrow (by simp; omega) (fun j hj => by have := (HL.out j hj).1; omega) | exact Below.grown (HG.out.on.below (al1 _ _)).drew hgrow (by simp; omega) (fun j hj => by have := (HL.out j hj).1; omega)); clear hown hgrow hat hlt6))
      all_goals
        have HN : Hid (Grow w (w6.setCell ⟨w.heap.size + 1 + 1, 0, none⟩ (.slice (some ⟨gg, 0, none⟩) (k + 1) cap)) s (.slice (some ⟨gg, 0, none⟩) (k + 1) cap) (k + 1)) := Lib.hid (by first | exact Grow.next (HG.out.drew.below (al1 _ _)) HGr.out (fun j hj => (HL.out j hj).1) HO.out | exact Grow.next (HG.out.below (al1 _ _)).drew HGr.out (fun j hj => (HL.out j hj).1) HO.out)
        clear a0 af al
        (try simp only [Act.put, List.setIfInBounds_toArray, List.set_cons_zero, List.set_cons_succ])
        go_wp2_with fail
        go_roundw
        case rel => exact ⟨k + 1, _, by omega, by go_num, HN.out⟩
        case measure =>
          simp [intOf]
          omega
    · obtain rfl : k = 2 * P := by omega
      have p0 : ¬ (((2 * P : Nat) : Int) < 2 * (P : Int)) := by omega
      obtain ⟨zl, z0, z1, z2, zf⟩ := HG.out.z
      have f0 := zf 0
      have f1 := zf 1
      have f2 := zf 2
      obtain ⟨cap, g, rfl, o, hlg, hc⟩ := outN_own HG.out.row (by simp) (by omega) (by intro e; have := congrArg List.length e; simp at this; omega)
      have HO := Lib.hid o
      have ng := o.new
      have hbig := HG.out.big
      have m5 : g ≠ w.heap.size := by omega
      have m6 : w.heap.size + 1 ≠ w.heap.size := by omega
      clear zf o
      go_wp2_with fail
      refine bodyPost_ret (v := .agg #[.slice (some ⟨g, 0, none⟩) (2 * P) cap, .slice (some ⟨w.heap.size + 1, 0, none⟩) 2 2, .int .i64 0]) (by simp [results, Try.results57, go_sem, z0, z1, z2]) rfl ⟨g, cap, w.heap.size + 1, rfl, ⟨(((HO.out.setCell m5 _).setCell m5 _).setCell m5 _).lower (by omega), (((HG.out.st.setCell m6 _).setCell m6 _).setCell m6 _).lower (by omega), by omega, by simp, rfl⟩, by simpa using hlg, by simp; omega, hc, HG.out.on.set3 (Nat.le_refl _) _ _ _⟩
theorem l04Start_any (P : Nat) (s c l : Int) (st sk re fe ag : Bool) (b : Nat) (w : World) (hr : RuAt w b (P : Int) s c l st sk re fe ag) (hP : 2 ≤ P) (hP2 : P ≤ 8) :
    Calls Try.prog 57 #[.pointer (some ⟨b, 0, none⟩)] w (PosQ (2 * P) 2 0 (List.replicate (2 * P) s) [0, 0] w) :=
  (l04Start2_any P s c l st sk re fe ag b w hr hP hP2).mono fun e w' ⟨g1, c1, g2, h1, h2, h3, h4, h5, h6⟩ => ⟨g1, c1, g2, 2, h1, h2, h3, h4, h5, Nat.le_refl _, h6⟩
end Go.Proofs.Ytgogjjkecbgbiaa
