/- The place of a lap's last seed, as the program finds it. No conditions. -/
import Derived.Test.YthlfkdjkihiiaaaPlaces
import Derived.Test.YthlfkdjkihiiaaaRnd5
import Derived.Test.YthlfkdjkihiiaaaCh2More
import Derived.Test.YthlfkdjkihiiaaaBox4
namespace Go.Proofs.Ythlfkdjkihiiaaa
open Go.RowKit Go.Shelf
attribute [local go_sem] Oper.semAt_some
set_option linter.unusedVariables false

/-- What the loop of LastPlace keeps: the seeds that are left, and the last place. -/
structure LastC (w : World) (bs bl : Nat) (n : Int) (pv : Nat → Int) (k : Nat) (A : World) : Prop where
  below : Below w.heap.size w A
  cs : A.cell? ⟨bs, 0, none⟩ = some (.int .i64 (n - k))
  cl : ∃ v, A.cell? ⟨bl, 0, none⟩ = some (.int .i64 v) ∧ (∀ j, k = j + 1 → v = pv j)
  fs : A.frozen? ⟨bs, 0, none⟩ = false
  fl : A.frozen? ⟨bl, 0, none⟩ = false
theorem LastC.tame {w A Z : World} {bs bl B k : Nat} {n : Int} {pv : Nat → Int} (h : LastC w bs bl n pv k A) (t : Tame B A Z) (hB : w.heap.size ≤ B) : LastC w bs bl n pv k Z := by
  obtain ⟨v, hv, hk⟩ := h.cl
  exact ⟨Tame.below h.below t hB (Nat.le_refl _), (t.cell h.cs).1, ⟨v, (t.cell hv).1, hk⟩, (t.cell h.cs).2.trans h.fs, (t.cell hv).2.trans h.fl⟩
/-- A record and the block for deferred calls. -/
def RecAt (A : World) (L D : Nat) (r : Loop) : Prop := A.heap[L]? = some (.loop r) ∧ A.heap[D]? = some (.deferred (some []))
theorem RecAt.below {A Z : World} {L D : Nat} {r : Loop} (h : RecAt A L D r) (k : Below A.heap.size A Z) : RecAt Z L D r :=
  ⟨(k.block L (Array.getElem?_eq_some_iff.1 h.1).1).trans h.1, (k.block D (Array.getElem?_eq_some_iff.1 h.2).1).trans h.2⟩
theorem RecAt.put {A : World} {L D : Nat} {r r' : Loop} (h : RecAt A L D r) (hD : D ≠ L) : RecAt (A.putObj L (.loop r')) L D r' :=
  ⟨World.putObj_heap_same (Array.getElem?_eq_some_iff.1 h.1).1, (World.putObj_heap_other hD).trans h.2⟩
theorem RecAt.setCell {A : World} {L D : Nat} {r : Loop} (h : RecAt A L D r) {p : Addr} {v : Value} (hp : A.cell? p = some v) (x : Value) : RecAt (A.setCell p x) L D r := by
  have hc : ∃ o, A.heap[p.block]? = some o ∧ o.isCells = true := by
    unfold World.cell? at hp
    rcases ho : A.heap[p.block]? with _ | u
    · simp [ho] at hp
    · exact ⟨u, rfl, by cases u <;> simp_all [Obj.isCells]⟩
  obtain ⟨o, ho, hoc⟩ := hc
  refine ⟨(Below.heap_setCell A p x L fun e => ?_).trans h.1, (Below.heap_setCell A p x D fun e => ?_).trans h.2⟩
  · rw [← e, h.1] at ho
    cases ho
    cases hoc
  · rw [← e, h.2] at ho
    cases ho
    cases hoc

set_option maxHeartbeats 4000000 in
set_option maxRecDepth 100000 in
theorem implLast0 (p s c l : Int) (st sk re fe ag : Bool) (move f : Int) (n : Nat) (w : World) (hf : f = 0 * p + move) (hok : okR p s c l st ag = true) (hm0 : 0 ≤ move) (hm1 : move < p) (hn1 : 1 ≤ n) (hn2 : n ≤ 96) :
    Calls Try.prog 26 #[.agg #[.int .i64 p, .int .i64 s, .bool st, .bool sk, .bool re, .bool fe, .bool ag, .int .i64 c, .int .i64 l], .int .i64 0, .int .i64 move, .int .i64 n] w fun e w' => e = .returned (.tuple #[.int .i64 (plc p 0 st sk f (n - 1)), .int .i64 0]) ∧ Below w.heap.size w w' := by
  have hbd := okR_bd hok
  obtain ⟨hp2, hp8, -⟩ := hbd
  have hf0 : 0 ≤ f := by omega
  have hf1 : f < 2 * p := by omega
  have hv : movV (moveC (okR p s c l st ag) p 0 move) (0 * p + move) = f ∧ moveC (okR p s c l st ag) p 0 move = 0 := by
    rw [hok, hf]
    simp [movV, moveC, hm0, hm1]
  have Hv := Lib.hid hv.1
  have Hc := Lib.hid hv.2
  have Hf := Lib.hid hf
  clear hok hv hf
  refine (callsIn_wide (n := 3)).1 ?_
  refine callsIn_of_wp_marks Try.func26 rfl trivial ?_ rfl
  simp only [Try.ntmps26, List.size_toArray, List.length_cons, List.length_nil, Nat.reduceAdd, Nat.reduceSub, Array.replicate_succ, Array.replicate_zero, List.push_toArray, List.append_toArray, List.nil_append, List.cons_append]
  gi_wp2_with fail
  refine ⟨trivial, ?_⟩
  refine CallsIn.mono (callsIn_wide.2 (impl_pitof p s c l st sk re fe ag _ _ _)) ?_
  rintro e w1 ⟨rfl, hb1⟩
  rw [Hv.out, Hc.out]
  have hs1 := hb1.size
  simp at hs1
  have HB1 := Lib.hid ((((Below.refl _ w).alloc (Nat.le_refl _) (.cells #[.int .i64 p, .int .i64 s, .bool st, .bool sk, .bool re, .bool fe, .bool ag, .int .i64 c, .int .i64 l] 25)).alloc (by simp) (.cells #[.int .i64 n] 2)).trans (hb1.mono (by simp; omega)))
  have HR := Lib.hid (((ru_new p s c l st sk re fe ag w 25).below ((Below.refl _ _).alloc (Nat.le_refl _) (.cells #[.int .i64 n] 2))).below hb1)
  have y1 : w1.cell? ⟨w.heap.size + 1, 0, none⟩ = some (.int .i64 n) := by rw [(bcell hb1).1 (w.heap.size + 1) 0 (by simp)]; go_simp
  have z1 : w1.frozen? ⟨w.heap.size + 1, 0, none⟩ = false := by rw [(bcell hb1).2 (w.heap.size + 1) 0 (by simp)]; go_simp
  have q0 : (1 : Int) ≤ n := by omega
  have q1 : (n : Int) ≤ 96 := by omega
  have l1 : w.heap.size < w1.heap.size := by omega
  have l2 : w.heap.size + 1 < w1.heap.size := by omega
  obtain ⟨-, g0, g1, g2, g3, g4, g5, g6, g7, g8⟩ := HR.out
  clear hb1 HR
  gi_wp2_with fail
  have hst : LastC w (w.heap.size + 1) w1.heap.size n (plc p 0 st sk f) 0 (w1.alloc (.cells #[.int .i64 0] 2)) :=
    ⟨HB1.out.alloc HB1.out.size _, by simp only [Int.ofNat_zero, Int.sub_zero, Int.natCast_zero]; go_simp, ⟨0, by go_simp, fun j h => by cases h⟩, by go_simp, by go_simp⟩
  have hsz0 : w1.heap.size < (w1.alloc (.cells #[.int .i64 0] 2)).heap.size := by simp
  generalize hW0 : w1.alloc (.cells #[.int .i64 0] 2) = W0 at *
  generalize hbl : w1.heap.size = bl at *
  have Hst := Lib.hid hst
  clear hW0 hst HB1 y1 z1 g0 g1 g2 g3 g4 g5 g6 g7 g8 hbl
  refine range_stmt (gf := 61) (fb := #[.agg #[.int .i64 p, .int .i64 s, .bool st, .bool sk, .bool re, .bool fe, .bool ag, .int .i64 c, .int .i64 l, .int .i64 0, .int .i64 f]]) (cb := #[]) rfl (enters_of Try.func61 (by kernel_rfl) rfl) ?_
  intro fn R hR
  have hb01 : Below W0.heap.size W0 ((W0.alloc (.deferred (some []))).alloc (.loop (R .ready none))) := ((Below.refl _ W0).alloc (Nat.le_refl _) _).alloc (by simp) _
  have hrc : RecAt ((W0.alloc (.deferred (some []))).alloc (.loop (R .ready none))) (W0.heap.size + 1) W0.heap.size (R .ready none) := laid_loop W0 _
  have hst1 := Hst.out.tame (Tame.of_below (B := w.heap.size) hb01) (Nat.le_refl _)
  have hsz1 : ((W0.alloc (.deferred (some []))).alloc (.loop (R .ready none))).heap.size = W0.heap.size + 1 + 1 := by simp
  generalize hW1 : (W0.alloc (.deferred (some []))).alloc (.loop (R .ready none)) = W1 at *
  have HR := Lib.hid hR
  have Hst1 := Lib.hid hst1
  have Hrc := Lib.hid hrc
  have Hsz1 := Lib.hid hsz1
  have hwW : w.heap.size ≤ W0.heap.size := Hst.out.below.size
  clear hb01 hrc hst1 hsz1 hW1 hR
  refine (places_gives0 2 p s c l st sk re fe ag f hp2 hp8 hf0 hf1 W1.heap.size (W0.heap.size + 1) n (fun k A => LastC w (w.heap.size + 1) bl n (plc p 0 st sk f) k A ∧ RecAt A (W0.heap.size + 1) W0.heap.size (R .ready none))
    (fun Z => LastC w (w.heap.size + 1) bl n (plc p 0 st sk f) n Z ∧ RecAt Z (W0.heap.size + 1) W0.heap.size (R .done (some (.exit 0)))) W1 (Nat.le_refl _)
    (fun k A Z h hb => ⟨h.1.tame (Tame.of_below (B := w.heap.size) hb) (Nat.le_refl _), h.2.below hb⟩) ?_ ⟨Hst1.out, Hrc.out⟩ (by omega)).mono ?_
  · rintro k A hk ⟨hc, hr⟩
    refine round_yield HR.out hr.1 rfl ?_
    intro K hK
    gi_wp2
    refine ⟨hr.1, ?_⟩
    have hc2 := hc.tame (Tame.putObj (B := w.heap.size) (by omega) hr.1 rfl (.loop (R .busy none))) (Nat.le_refl _)
    have hr2 := hr.put (r' := R .busy none) (by omega)
    have ha2 := Above.putObj (B := W1.heap.size) (A := A) (r := W0.heap.size + 1) (.loop (R .busy none)) (by rw [Hsz1.out]; omega)
    generalize hA2 : A.putObj (W0.heap.size + 1) (.loop (R .busy none)) = A2 at *
    obtain ⟨hbe, c1, ⟨v, c2, hvk⟩, f1, f2⟩ := hc2
    have Hbe := Lib.hid hbe
    have Hr2 := Lib.hid hr2
    have Ha2 := Lib.hid ha2
    clear hA2 hc hr hbe hvk hr2 ha2
    have q2 : (1 : Int) ≤ (n : Int) - k := by omega
    have q3 : (n : Int) - k ≤ 96 := by omega
    by_cases hend : k + 1 = n
    · have hd : ((n : Int) - k - 1 == 0) = true := by simp; omega
      have Hend := Lib.hid hend
      clear hend
      gi_wp2
      refine ⟨((Hr2.out.setCell c2 _).setCell (v := .int .i64 (n - k)) (by go_simp) _).1, .inr ⟨rfl, ?_, ?_⟩⟩
      · have hL : LastC w (w.heap.size + 1) bl n (plc p 0 st sk f) n ((A2.setCell ⟨bl, 0, none⟩ (.int .i64 (plc p 0 st sk f k))).setCell ⟨w.heap.size + 1, 0, none⟩ (.int .i64 ((n : Int) - k - 1))) :=
          ⟨(Hbe.out.setCell (p := ⟨bl, 0, none⟩) (by simp; omega) _).setCell (p := ⟨w.heap.size + 1, 0, none⟩) (by simp) _, by have := Hend.out; subst this; go_simp; omega, ⟨plc p 0 st sk f k, by go_simp, fun j hj => by have := Hend.out; rw [show j = k by omega]⟩, by go_simp, by go_simp⟩
        exact hL.tame (Tame.putObj (B := w.heap.size) (by omega) ((Hr2.out.setCell c2 _).setCell (v := .int .i64 (n - k)) (by go_simp) _).1 rfl _) (Nat.le_refl _)
      · exact ((Hr2.out.setCell c2 _).setCell (v := .int .i64 (n - k)) (by go_simp) _).put (by omega)
    · have hd : ((n : Int) - k - 1 == 0) = false := by simp; omega
      have Hend := Lib.hid hend
      clear hend
      gi_wp2
      refine ⟨((Hr2.out.setCell c2 _).setCell (v := .int .i64 (n - k)) (by go_simp) _).1, .inl ⟨rfl, by have := Hend.out; omega, ⟨?_, ?_⟩, ?_⟩⟩
      · have hL : LastC w (w.heap.size + 1) bl n (plc p 0 st sk f) (k + 1) ((A2.setCell ⟨bl, 0, none⟩ (.int .i64 (plc p 0 st sk f k))).setCell ⟨w.heap.size + 1, 0, none⟩ (.int .i64 ((n : Int) - k - 1))) :=
          ⟨(Hbe.out.setCell (p := ⟨bl, 0, none⟩) (by simp; omega) _).setCell (p := ⟨w.heap.size + 1, 0, none⟩) (by simp) _, by go_simp; omega, ⟨plc p 0 st sk f k, by go_simp, fun j hj => by rw [show j = k by omega]⟩, by go_simp, by go_simp⟩
        exact hL.tame (Tame.putObj (B := w.heap.size) (by omega) ((Hr2.out.setCell c2 _).setCell (v := .int .i64 (n - k)) (by go_simp) _).1 rfl _) (Nat.le_refl _)
      · exact ((Hr2.out.setCell c2 _).setCell (v := .int .i64 (n - k)) (by go_simp) _).put (by omega)
      · exact ((Ha2.out.trans (Above.setCell (by have := Hsz1.out; simp; omega) _)).trans (Above.setCell (by have := Hsz1.out; simp; omega) _)).trans (Above.putObj _ (by have := Hsz1.out; omega))
  · rintro e Z ⟨hv, hcl, hrz⟩
    refine ⟨hv, .inr ⟨_, hrz.1, ?_⟩⟩
    have hc2 := hcl.tame (Tame.putObj (B := w.heap.size) (by omega) hrz.1 rfl (.loop (R .exhausted (some (.exit 0))))) (Nat.le_refl _)
    have hr2 := hrz.put (r' := R .exhausted (some (.exit 0))) (by omega)
    generalize hA2 : Z.putObj (W0.heap.size + 1) (.loop (R .exhausted (some (.exit 0)))) = A2 at *
    obtain ⟨hbe, c1, ⟨v, c2, hvk⟩, f1, f2⟩ := hc2
    have hvn : v = plc p 0 st sk f (n - 1) := hvk (n - 1) (by omega)
    have Hbe := Lib.hid hbe
    have Hr2 := Lib.hid hr2
    have Hvn := Lib.hid hvn
    clear hA2 hcl hrz hbe hvk hr2 hvn hv
    gi_wp2
    refine ⟨by simp, .inl ⟨_, _, rfl, run_takeDeferred Hr2.out.2, ?_⟩⟩
    refine ⟨.tuple #[.int .i64 v, .int .i64 0], by simp [results, Try.f26, go_sem], ?_, ?_⟩
    · rw [Hvn.out]
    · exact Tame.below Hbe.out (Tame.putObj (B := w.heap.size) (by omega) Hr2.out.2 rfl (.deferred none)) (Nat.le_refl _) (Nat.le_refl _)
set_option maxHeartbeats 4000000 in
set_option maxRecDepth 100000 in
theorem implLast1 (p s c l : Int) (st sk re fe ag : Bool) (move f : Int) (n : Nat) (w : World) (hf : f = 1 * p + move) (hok : okR p s c l st ag = true) (hm0 : 0 ≤ move) (hm1 : move < p) (hn1 : 1 ≤ n) (hn2 : n ≤ 96) :
    Calls Try.prog 26 #[.agg #[.int .i64 p, .int .i64 s, .bool st, .bool sk, .bool re, .bool fe, .bool ag, .int .i64 c, .int .i64 l], .int .i64 1, .int .i64 move, .int .i64 n] w fun e w' => e = .returned (.tuple #[.int .i64 (plc p 1 st sk f (n - 1)), .int .i64 0]) ∧ Below w.heap.size w w' := by
  have hbd := okR_bd hok
  obtain ⟨hp2, hp8, -⟩ := hbd
  have hf0 : 0 ≤ f := by omega
  have hf1 : f < 2 * p := by omega
  have hv : movV (moveC (okR p s c l st ag) p 1 move) (1 * p + move) = f ∧ moveC (okR p s c l st ag) p 1 move = 0 := by
    rw [hok, hf]
    simp [movV, moveC, hm0, hm1]
  have Hv := Lib.hid hv.1
  have Hc := Lib.hid hv.2
  have Hf := Lib.hid hf
  clear hok hv hf
  refine (callsIn_wide (n := 3)).1 ?_
  refine callsIn_of_wp_marks Try.func26 rfl trivial ?_ rfl
  simp only [Try.ntmps26, List.size_toArray, List.length_cons, List.length_nil, Nat.reduceAdd, Nat.reduceSub, Array.replicate_succ, Array.replicate_zero, List.push_toArray, List.append_toArray, List.nil_append, List.cons_append]
  gi_wp2_with fail
  refine ⟨trivial, ?_⟩
  refine CallsIn.mono (callsIn_wide.2 (impl_pitof p s c l st sk re fe ag _ _ _)) ?_
  rintro e w1 ⟨rfl, hb1⟩
  rw [Hv.out, Hc.out]
  have hs1 := hb1.size
  simp at hs1
  have HB1 := Lib.hid ((((Below.refl _ w).alloc (Nat.le_refl _) (.cells #[.int .i64 p, .int .i64 s, .bool st, .bool sk, .bool re, .bool fe, .bool ag, .int .i64 c, .int .i64 l] 25)).alloc (by simp) (.cells #[.int .i64 n] 2)).trans (hb1.mono (by simp; omega)))
  have HR := Lib.hid (((ru_new p s c l st sk re fe ag w 25).below ((Below.refl _ _).alloc (Nat.le_refl _) (.cells #[.int .i64 n] 2))).below hb1)
  have y1 : w1.cell? ⟨w.heap.size + 1, 0, none⟩ = some (.int .i64 n) := by rw [(bcell hb1).1 (w.heap.size + 1) 0 (by simp)]; go_simp
  have z1 : w1.frozen? ⟨w.heap.size + 1, 0, none⟩ = false := by rw [(bcell hb1).2 (w.heap.size + 1) 0 (by simp)]; go_simp
  have q0 : (1 : Int) ≤ n := by omega
  have q1 : (n : Int) ≤ 96 := by omega
  have l1 : w.heap.size < w1.heap.size := by omega
  have l2 : w.heap.size + 1 < w1.heap.size := by omega
  obtain ⟨-, g0, g1, g2, g3, g4, g5, g6, g7, g8⟩ := HR.out
  clear hb1 HR
  gi_wp2_with fail
  have hst : LastC w (w.heap.size + 1) w1.heap.size n (plc p 1 st sk f) 0 (w1.alloc (.cells #[.int .i64 0] 2)) :=
    ⟨HB1.out.alloc HB1.out.size _, by simp only [Int.ofNat_zero, Int.sub_zero, Int.natCast_zero]; go_simp, ⟨0, by go_simp, fun j h => by cases h⟩, by go_simp, by go_simp⟩
  have hsz0 : w1.heap.size < (w1.alloc (.cells #[.int .i64 0] 2)).heap.size := by simp
  generalize hW0 : w1.alloc (.cells #[.int .i64 0] 2) = W0 at *
  generalize hbl : w1.heap.size = bl at *
  have Hst := Lib.hid hst
  clear hW0 hst HB1 y1 z1 g0 g1 g2 g3 g4 g5 g6 g7 g8 hbl
  refine range_stmt (gf := 61) (fb := #[.agg #[.int .i64 p, .int .i64 s, .bool st, .bool sk, .bool re, .bool fe, .bool ag, .int .i64 c, .int .i64 l, .int .i64 1, .int .i64 f]]) (cb := #[]) rfl (enters_of Try.func61 (by kernel_rfl) rfl) ?_
  intro fn R hR
  have hb01 : Below W0.heap.size W0 ((W0.alloc (.deferred (some []))).alloc (.loop (R .ready none))) := ((Below.refl _ W0).alloc (Nat.le_refl _) _).alloc (by simp) _
  have hrc : RecAt ((W0.alloc (.deferred (some []))).alloc (.loop (R .ready none))) (W0.heap.size + 1) W0.heap.size (R .ready none) := laid_loop W0 _
  have hst1 := Hst.out.tame (Tame.of_below (B := w.heap.size) hb01) (Nat.le_refl _)
  have hsz1 : ((W0.alloc (.deferred (some []))).alloc (.loop (R .ready none))).heap.size = W0.heap.size + 1 + 1 := by simp
  generalize hW1 : (W0.alloc (.deferred (some []))).alloc (.loop (R .ready none)) = W1 at *
  have HR := Lib.hid hR
  have Hst1 := Lib.hid hst1
  have Hrc := Lib.hid hrc
  have Hsz1 := Lib.hid hsz1
  have hwW : w.heap.size ≤ W0.heap.size := Hst.out.below.size
  clear hb01 hrc hst1 hsz1 hW1 hR
  refine (places_gives1 2 p s c l st sk re fe ag f hp2 hp8 hf0 hf1 W1.heap.size (W0.heap.size + 1) n (fun k A => LastC w (w.heap.size + 1) bl n (plc p 1 st sk f) k A ∧ RecAt A (W0.heap.size + 1) W0.heap.size (R .ready none))
    (fun Z => LastC w (w.heap.size + 1) bl n (plc p 1 st sk f) n Z ∧ RecAt Z (W0.heap.size + 1) W0.heap.size (R .done (some (.exit 0)))) W1 (Nat.le_refl _)
    (fun k A Z h hb => ⟨h.1.tame (Tame.of_below (B := w.heap.size) hb) (Nat.le_refl _), h.2.below hb⟩) ?_ ⟨Hst1.out, Hrc.out⟩ (by omega)).mono ?_
  · rintro k A hk ⟨hc, hr⟩
    refine round_yield HR.out hr.1 rfl ?_
    intro K hK
    gi_wp2
    refine ⟨hr.1, ?_⟩
    have hc2 := hc.tame (Tame.putObj (B := w.heap.size) (by omega) hr.1 rfl (.loop (R .busy none))) (Nat.le_refl _)
    have hr2 := hr.put (r' := R .busy none) (by omega)
    have ha2 := Above.putObj (B := W1.heap.size) (A := A) (r := W0.heap.size + 1) (.loop (R .busy none)) (by rw [Hsz1.out]; omega)
    generalize hA2 : A.putObj (W0.heap.size + 1) (.loop (R .busy none)) = A2 at *
    obtain ⟨hbe, c1, ⟨v, c2, hvk⟩, f1, f2⟩ := hc2
    have Hbe := Lib.hid hbe
    have Hr2 := Lib.hid hr2
    have Ha2 := Lib.hid ha2
    clear hA2 hc hr hbe hvk hr2 ha2
    have q2 : (1 : Int) ≤ (n : Int) - k := by omega
    have q3 : (n : Int) - k ≤ 96 := by omega
    by_cases hend : k + 1 = n
    · have hd : ((n : Int) - k - 1 == 0) = true := by simp; omega
      have Hend := Lib.hid hend
      clear hend
      gi_wp2
      refine ⟨((Hr2.out.setCell c2 _).setCell (v := .int .i64 (n - k)) (by go_simp) _).1, .inr ⟨rfl, ?_, ?_⟩⟩
      · have hL : LastC w (w.heap.size + 1) bl n (plc p 1 st sk f) n ((A2.setCell ⟨bl, 0, none⟩ (.int .i64 (plc p 1 st sk f k))).setCell ⟨w.heap.size + 1, 0, none⟩ (.int .i64 ((n : Int) - k - 1))) :=
          ⟨(Hbe.out.setCell (p := ⟨bl, 0, none⟩) (by simp; omega) _).setCell (p := ⟨w.heap.size + 1, 0, none⟩) (by simp) _, by have := Hend.out; subst this; go_simp; omega, ⟨plc p 1 st sk f k, by go_simp, fun j hj => by have := Hend.out; rw [show j = k by omega]⟩, by go_simp, by go_simp⟩
        exact hL.tame (Tame.putObj (B := w.heap.size) (by omega) ((Hr2.out.setCell c2 _).setCell (v := .int .i64 (n - k)) (by go_simp) _).1 rfl _) (Nat.le_refl _)
      · exact ((Hr2.out.setCell c2 _).setCell (v := .int .i64 (n - k)) (by go_simp) _).put (by omega)
    · have hd : ((n : Int) - k - 1 == 0) = false := by simp; omega
      have Hend := Lib.hid hend
      clear hend
      gi_wp2
      refine ⟨((Hr2.out.setCell c2 _).setCell (v := .int .i64 (n - k)) (by go_simp) _).1, .inl ⟨rfl, by have := Hend.out; omega, ⟨?_, ?_⟩, ?_⟩⟩
      · have hL : LastC w (w.heap.size + 1) bl n (plc p 1 st sk f) (k + 1) ((A2.setCell ⟨bl, 0, none⟩ (.int .i64 (plc p 1 st sk f k))).setCell ⟨w.heap.size + 1, 0, none⟩ (.int .i64 ((n : Int) - k - 1))) :=
          ⟨(Hbe.out.setCell (p := ⟨bl, 0, none⟩) (by simp; omega) _).setCell (p := ⟨w.heap.size + 1, 0, none⟩) (by simp) _, by go_simp; omega, ⟨plc p 1 st sk f k, by go_simp, fun j hj => by rw [show j = k by omega]⟩, by go_simp, by go_simp⟩
        exact hL.tame (Tame.putObj (B := w.heap.size) (by omega) ((Hr2.out.setCell c2 _).setCell (v := .int .i64 (n - k)) (by go_simp) _).1 rfl _) (Nat.le_refl _)
      · exact ((Hr2.out.setCell c2 _).setCell (v := .int .i64 (n - k)) (by go_simp) _).put (by omega)
      · exact ((Ha2.out.trans (Above.setCell (by have := Hsz1.out; simp; omega) _)).trans (Above.setCell (by have := Hsz1.out; simp; omega) _)).trans (Above.putObj _ (by have := Hsz1.out; omega))
  · rintro e Z ⟨hv, hcl, hrz⟩
    refine ⟨hv, .inr ⟨_, hrz.1, ?_⟩⟩
    have hc2 := hcl.tame (Tame.putObj (B := w.heap.size) (by omega) hrz.1 rfl (.loop (R .exhausted (some (.exit 0))))) (Nat.le_refl _)
    have hr2 := hrz.put (r' := R .exhausted (some (.exit 0))) (by omega)
    generalize hA2 : Z.putObj (W0.heap.size + 1) (.loop (R .exhausted (some (.exit 0)))) = A2 at *
    obtain ⟨hbe, c1, ⟨v, c2, hvk⟩, f1, f2⟩ := hc2
    have hvn : v = plc p 1 st sk f (n - 1) := hvk (n - 1) (by omega)
    have Hbe := Lib.hid hbe
    have Hr2 := Lib.hid hr2
    have Hvn := Lib.hid hvn
    clear hA2 hcl hrz hbe hvk hr2 hvn hv
    gi_wp2
    refine ⟨by simp, .inl ⟨_, _, rfl, run_takeDeferred Hr2.out.2, ?_⟩⟩
    refine ⟨.tuple #[.int .i64 v, .int .i64 0], by simp [results, Try.f26, go_sem], ?_, ?_⟩
    · rw [Hvn.out]
    · exact Tame.below Hbe.out (Tame.putObj (B := w.heap.size) (by omega) Hr2.out.2 rfl (.deferred none)) (Nat.le_refl _) (Nat.le_refl _)
end Go.Proofs.Ythlfkdjkihiiaaa
