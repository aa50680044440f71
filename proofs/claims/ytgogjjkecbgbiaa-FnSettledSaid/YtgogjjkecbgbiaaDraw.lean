/- Rules that the reference draws are valid. No conditions. -/
import Derived.Test.YtgogjjkecbgbiaaSrc
import Derived.Test.YtgogjjkecbgbiaaStd
namespace Go.Proofs.Ytgogjjkecbgbiaa
open Go.Joins Go.ChangeShapes Go.WideShapes Go.ChangeAt Go.RowKit Go.Deep
set_option linter.unusedVariables false

def names4 : List ByteArray := [⟨#[107, 97, 108, 97, 104]⟩, ⟨#[109, 105, 110, 105]⟩, ⟨#[111, 119, 97, 114, 101]⟩, ⟨#[114, 101, 108, 97, 121]⟩]
theorem std_mem {t : ByteArray} (h : t ∈ names4) : ∃ (p s c l : Int) (st sk re fe ag : Bool), stdR t = (.agg #[.int .i64 p, .int .i64 s, .bool st, .bool sk, .bool re, .bool fe, .bool ag, .int .i64 c, .int .i64 l], 0) ∧ okR p s c l st ag = true := by
  simp only [names4, List.mem_cons, List.not_mem_nil, or_false] at h
  rcases h with rfl | rfl | rfl | rfl
  · exact ⟨6, 4, 2, 0, true, false, false, false, true, by simp [stdR, rKalah, ByteArray.toList_mk], by decide⟩
  · exact ⟨3, 2, 1, 0, false, false, false, true, false, by simp [stdR, rMini, ByteArray.toList_mk], by decide⟩
  · exact ⟨6, 4, 1, 2, false, true, false, true, false, by simp [stdR, rOware, ByteArray.toList_mk], by decide⟩
  · exact ⟨4, 2, 2, 0, false, false, true, false, false, by simp [stdR, rRelay, ByteArray.toList_mk], by decide⟩

theorem But.setNew {b : Nat} {w u : World} (h : But b w u) {n o : Nat} (hn : w.heap.size ≤ n) (x : Value) : But b w (u.setCell ⟨n, o, none⟩ x) :=
  ⟨h.os, h.tape, h.output, by have := h.size; simpa using this, fun k hk hb => (Below.heap_setCell u ⟨n, o, none⟩ x k (by show k ≠ n; omega)).trans (h.block k hk hb)⟩
/-- Block b of X is block b of u. -/
structure SameAt (b : Nat) (u X : World) : Prop where
  blk : X.heap[b]? = u.heap[b]?
  size : u.heap.size ≤ X.heap.size
theorem SameAt.refl (b : Nat) (u : World) : SameAt b u u := ⟨rfl, Nat.le_refl _⟩
theorem SameAt.setCell {b : Nat} {u X : World} (h : SameAt b u X) {n o : Nat} (hn : n ≠ b) (x : Value) : SameAt b u (X.setCell ⟨n, o, none⟩ x) :=
  ⟨(Below.heap_setCell X ⟨n, o, none⟩ x b (by show b ≠ n; omega)).trans h.blk, by have := h.size; simpa using this⟩
theorem SameAt.alloc {b : Nat} {u X : World} (h : SameAt b u X) (hb : b < X.heap.size) (o : Obj) : SameAt b u (X.alloc o) :=
  ⟨(Below.heap_alloc X o b hb).trans h.blk, by have := h.size; simp; omega⟩
theorem Src.at {w u X : World} {b : Nat} {a : Option Addr} {len cap K : Nat} (h0 : RowAt w b a len) (k : But b w X) (h : Src u b a len cap K) (s : SameAt b u X) : Src X b a len cap K := by
  obtain ⟨_, i, n, hi, h⟩ := h
  refine ⟨h0.but k, i, n, hi, ⟨Nat.lt_of_lt_of_le h.lt s.size, ?_, ?_, ?_, fun o => ?_, h.u0, h.u1⟩⟩
  · rw [World.cell?_of_block (w := u) (a := ⟨b, 0, none⟩) s.blk]; exact h.c0
  · rw [World.cell?_of_block (w := u) (a := ⟨b, 1, none⟩) s.blk]; exact h.c1
  · rw [World.cell?_of_block (w := u) (a := ⟨b, 2, none⟩) s.blk]; exact h.c2
  · rw [World.frozen?_of_block (w := u) (a := ⟨b, o, none⟩) s.blk]; exact h.fr o

def DrawP (b : Nat) (a : Option Addr) (len cap K : Nat) (w : World) (e : Ending) (w' : World) : Prop :=
  ∃ (p s c l : Int) (st sk re fe ag : Bool), okR p s c l st ag = true ∧ e = .returned (.agg #[.int .i64 p, .int .i64 s, .bool st, .bool sk, .bool re, .bool fe, .bool ag, .int .i64 c, .int .i64 l]) ∧ But b w w' ∧ Src w' b a len cap (K + 30)

set_option maxHeartbeats 16000000 in
set_option maxRecDepth 100000 in
theorem draw_any (b : Nat) (a : Option Addr) (len cap K : Nat) (w : World) (hs : Src w b a len cap K) (hK : K < 900000) :
    Calls Try.prog 47 #[.pointer (some ⟨b, 0, none⟩)] w (DrawP b a len cap K w) := by
    have hb := hs.lt
    have Hr := Lib.hid hs.1
    have Hs0 := Lib.hid hs
    clear hs
    go_enter Try.func47, Try.ntmps47
    go_wp2_with fail
    refine (one_any b a len cap (K) 3 _ (by exact (Hs0.out.below ((Below.refl _ _).alloc (Nat.le_refl _) _))) (by omega) (by decide) (by decide)).mono ?_
    rintro e w1 ⟨q, rfl, hb1, hs1⟩
    have Hs1 := Lib.hid hs1
    clear hs1
    have HB1 : But b w w1 := But.trans ((But.refl b w).alloc _) hb1
    have hz1 := hb1.size
    (try simp at hz1)
    have hy1 : w.heap.size < w1.heap.size := by omega
    have hx1a := fun o => hb1.cell (c := w.heap.size) (o := o) (by first | omega | (simp; done) | (simp; omega)) (by omega)
    have hf1a := fun o => hb1.frozen (c := w.heap.size) (o := o) (by first | omega | (simp; done) | (simp; omega)) (by omega)
    cases q
    rotate_left
    · go_wp2_with (go_at_call 56; go_in)
      refine (text_any b a len cap (K + 2) w1.heap.size _ names4 _ (Hs1.out.below ((Below.refl _ _).alloc (Nat.le_refl _) _)) (by omega) (by decide) (by decide) (by simp) (by have := Hs1.out.lt; omega) ?_).mono ?_
      · intro i t ht
        have hi : i < 4 := (List.getElem?_eq_some_iff.1 ht).1
        match i, hi with
        | 0, _ => cases ht; go_simp
        | 1, _ => cases ht; go_simp
        | 2, _ => cases ht; go_simp
        | 3, _ => cases ht; go_simp
      rintro e w2 ⟨t, ht, rfl, hb2, hs2⟩
      have Hs2 := Lib.hid hs2
      clear hs2
      obtain ⟨p, s, c, l, st, sk, re, fe, ag, hstd, hok⟩ := std_mem ht
      have Hstd := Lib.hid hstd
      have Hok := Lib.hid hok
      clear hstd hok ht
      have HB2 : But b w w2 := But.trans (HB1.alloc _) hb2
      have hz2 := hb2.size
      (try simp at hz2)
      have hy2 : w.heap.size < w2.heap.size := by omega
      have hx2a := fun o => hb2.cell (c := w.heap.size) (o := o) (by first | omega | (simp; done) | (simp; omega)) (by omega)
      have hf2a := fun o => hb2.frozen (c := w.heap.size) (o := o) (by first | omega | (simp; done) | (simp; omega)) (by omega)
      go_wp2_with fail
      refine (spec_std _ _).mono ?_
      rintro e w3 ⟨rfl, hb3⟩
      rw [Hstd.out]
      have Hs3 := Lib.hid (Hs2.out.below hb3)
      have HB3 : But b w w3 := HB2.trans (But.of_below hb3)
      have hz3 := hb3.size
      have hy3 : w.heap.size < w3.heap.size := by omega
      have hx3a := fun o => hb3.cell (p := ⟨w.heap.size, o, none⟩) (by simp; omega)
      have hf3a := fun o => hb3.frozen (p := ⟨w.heap.size, o, none⟩) (by simp; omega)
      go_wp2_with fail
      exact bodyPost_ret (v := .agg #[.int .i64 p, .int .i64 s, .bool st, .bool sk, .bool re, .bool fe, .bool ag, .int .i64 c, .int .i64 l]) (by simp [results, Try.results47, go_sem, hx1a, hx2a, hx3a, hy1, hy3]) rfl ⟨p, s, c, l, st, sk, re, fe, ag, Hok.out, rfl, (((((((((HB3.setNew (Nat.le_refl _) _).setNew (Nat.le_refl _) _).setNew (Nat.le_refl _) _).setNew (Nat.le_refl _) _).setNew (Nat.le_refl _) _).setNew (Nat.le_refl _) _).setNew (Nat.le_refl _) _).setNew (Nat.le_refl _) _).setNew (Nat.le_refl _) _).alloc _, Src.mono (K := K + 2 + 2) (Src.at Hr.out ((((((((((HB3.setNew (Nat.le_refl _) _).setNew (Nat.le_refl _) _).setNew (Nat.le_refl _) _).setNew (Nat.le_refl _) _).setNew (Nat.le_refl _) _).setNew (Nat.le_refl _) _).setNew (Nat.le_refl _) _).setNew (Nat.le_refl _) _).setNew (Nat.le_refl _) _).alloc _) Hs3.out (((((((((((SameAt.refl b w3).setCell (by omega) _).setCell (by omega) _).setCell (by omega) _).setCell (by omega) _).setCell (by omega) _).setCell (by omega) _).setCell (by omega) _).setCell (by omega) _).setCell (by omega) _).alloc (by first | omega | (simp; done) | (simp; omega)) _)) (by omega)⟩
    go_wp2_with fail
    refine (pick_any b a len cap (K + 2) 4 _ (by exact Hs1.out) (by omega) (by decide) (by decide)).mono ?_
    rintro e w2 ⟨v, ⟨v0, v1⟩, rfl, hb2, hs2⟩
    have Hs2 := Lib.hid hs2
    clear hs2
    have HB2 : But b w w2 := But.trans HB1 hb2
    have hz2 := hb2.size
    (try simp at hz2)
    have hy2 : w.heap.size < w2.heap.size := by omega
    have hx2a := fun o => hb2.cell (c := w.heap.size) (o := o) (by first | omega | (simp; done) | (simp; omega)) (by omega)
    have hf2a := fun o => hb2.frozen (c := w.heap.size) (o := o) (by first | omega | (simp; done) | (simp; omega)) (by omega)
    go_wp2_with fail
    refine (pick_any b a len cap (K + 2 + 2) 4 _ (by exact Hs2.out) (by omega) (by decide) (by decide)).mono ?_
    rintro e w3 ⟨u, ⟨u0, u1⟩, rfl, hb3, hs3⟩
    have Hs3 := Lib.hid hs3
    clear hs3
    have HB3 : But b w w3 := But.trans HB2 hb3
    have hz3 := hb3.size
    (try simp at hz3)
    have hy3 : w.heap.size < w3.heap.size := by omega
    have hx3a := fun o => hb3.cell (c := w.heap.size) (o := o) (by first | omega | (simp; done) | (simp; omega)) (by omega)
    have hf3a := fun o => hb3.frozen (c := w.heap.size) (o := o) (by first | omega | (simp; done) | (simp; omega)) (by omega)
    go_wp2_with fail
    refine (one_any b a len cap (K + 2 + 2 + 2) 2 _ (by exact (Src.at Hr.out (HB3.alloc _) Hs3.out ((SameAt.refl b w3).alloc Hs3.out.lt _))) (by omega) (by decide) (by decide)).mono ?_
    rintro e w4 ⟨st, rfl, hb4, hs4⟩
    have Hs4 := Lib.hid hs4
    clear hs4
    have HB4 : But b w w4 := But.trans (HB3.alloc _) hb4
    have hz4 := hb4.size
    (try simp at hz4)
    have hy4 : w.heap.size < w4.heap.size := by omega
    have hx4a := fun o => hb4.cell (c := w.heap.size) (o := o) (by first | omega | (simp; done) | (simp; omega)) (by omega)
    have hf4a := fun o => hb4.frozen (c := w.heap.size) (o := o) (by first | omega | (simp; done) | (simp; omega)) (by omega)
    have hx4r := fun o => hb4.cell (c := w3.heap.size) (o := o) (by first | omega | (simp; done) | (simp; omega)) (by omega)
    have hf4r := fun o => hb4.frozen (c := w3.heap.size) (o := o) (by first | omega | (simp; done) | (simp; omega)) (by omega)
    go_wp2_with fail
    refine (one_any b a len cap (K + 2 + 2 + 2 + 2) 2 _ (by exact (Src.at Hr.out (HB4.setNew (by omega) _) Hs4.out ((SameAt.refl b w4).setCell (by omega) _))) (by omega) (by decide) (by decide)).mono ?_
    rintro e w5 ⟨sk, rfl, hb5, hs5⟩
    have Hs5 := Lib.hid hs5
    clear hs5
    have HB5 : But b w w5 := But.trans (HB4.setNew (by omega) _) hb5
    have hz5 := hb5.size
    (try simp at hz5)
    have hy5 : w.heap.size < w5.heap.size := by omega
    have hx5a := fun o => hb5.cell (c := w.heap.size) (o := o) (by first | omega | (simp; done) | (simp; omega)) (by omega)
    have hf5a := fun o => hb5.frozen (c := w.heap.size) (o := o) (by first | omega | (simp; done) | (simp; omega)) (by omega)
    have hx5r := fun o => hb5.cell (c := w3.heap.size) (o := o) (by first | omega | (simp; done) | (simp; omega)) (by omega)
    have hf5r := fun o => hb5.frozen (c := w3.heap.size) (o := o) (by first | omega | (simp; done) | (simp; omega)) (by omega)
    go_wp2_with fail
    refine (one_any b a len cap (K + 2 + 2 + 2 + 2 + 2) 4 _ (by exact (Src.at Hr.out (HB5.setNew (by omega) _) Hs5.out ((SameAt.refl b w5).setCell (by omega) _))) (by omega) (by decide) (by decide)).mono ?_
    rintro e w6 ⟨re, rfl, hb6, hs6⟩
    have Hs6 := Lib.hid hs6
    clear hs6
    have HB6 : But b w w6 := But.trans (HB5.setNew (by omega) _) hb6
    have hz6 := hb6.size
    (try simp at hz6)
    have hy6 : w.heap.size < w6.heap.size := by omega
    have hx6a := fun o => hb6.cell (c := w.heap.size) (o := o) (by first | omega | (simp; done) | (simp; omega)) (by omega)
    have hf6a := fun o => hb6.frozen (c := w.heap.size) (o := o) (by first | omega | (simp; done) | (simp; omega)) (by omega)
    have hx6r := fun o => hb6.cell (c := w3.heap.size) (o := o) (by first | omega | (simp; done) | (simp; omega)) (by omega)
    have hf6r := fun o => hb6.frozen (c := w3.heap.size) (o := o) (by first | omega | (simp; done) | (simp; omega)) (by omega)
    go_wp2_with fail
    refine (one_any b a len cap (K + 2 + 2 + 2 + 2 + 2 + 2) 2 _ (by exact (Src.at Hr.out (HB6.setNew (by omega) _) Hs6.out ((SameAt.refl b w6).setCell (by omega) _))) (by omega) (by decide) (by decide)).mono ?_
    rintro e w7 ⟨fe, rfl, hb7, hs7⟩
    have Hs7 := Lib.hid hs7
    clear hs7
    have HB7 : But b w w7 := But.trans (HB6.setNew (by omega) _) hb7
    have hz7 := hb7.size
    (try simp at hz7)
    have hy7 : w.heap.size < w7.heap.size := by omega
    have hx7a := fun o => hb7.cell (c := w.heap.size) (o := o) (by first | omega | (simp; done) | (simp; omega)) (by omega)
    have hf7a := fun o => hb7.frozen (c := w.heap.size) (o := o) (by first | omega | (simp; done) | (simp; omega)) (by omega)
    have hx7r := fun o => hb7.cell (c := w3.heap.size) (o := o) (by first | omega | (simp; done) | (simp; omega)) (by omega)
    have hf7r := fun o => hb7.frozen (c := w3.heap.size) (o := o) (by first | omega | (simp; done) | (simp; omega)) (by omega)
    cases st
    · go_wp2_with fail
      refine (pick_any b a len cap (K + 2 + 2 + 2 + 2 + 2 + 2 + 2) 4 _ (by exact (Src.at Hr.out ((HB7.setNew (by omega) _).setNew (by omega) _) Hs7.out (((SameAt.refl b w7).setCell (by omega) _).setCell (by omega) _))) (by omega) (by decide) (by decide)).mono ?_
      rintro e w9 ⟨c, ⟨c0, c1⟩, rfl, hb9, hs9⟩
      have Hs9 := Lib.hid hs9
      clear hs9
      have HB9 : But b w w9 := But.trans ((HB7.setNew (by omega) _).setNew (by omega) _) hb9
      have hz9 := hb9.size
      (try simp at hz9)
      have hy9 : w.heap.size < w9.heap.size := by omega
      have hx9a := fun o => hb9.cell (c := w.heap.size) (o := o) (by first | omega | (simp; done) | (simp; omega)) (by omega)
      have hf9a := fun o => hb9.frozen (c := w.heap.size) (o := o) (by first | omega | (simp; done) | (simp; omega)) (by omega)
      have hx9r := fun o => hb9.cell (c := w3.heap.size) (o := o) (by first | omega | (simp; done) | (simp; omega)) (by omega)
      have hf9r := fun o => hb9.frozen (c := w3.heap.size) (o := o) (by first | omega | (simp; done) | (simp; omega)) (by omega)
      go_wp2_with fail
      refine (pick_any b a len cap (K + 2 + 2 + 2 + 2 + 2 + 2 + 2 + 2) 3 _ (by exact (Src.at Hr.out (HB9.setNew (by omega) _) Hs9.out ((SameAt.refl b w9).setCell (by omega) _))) (by omega) (by decide) (by decide)).mono ?_
      rintro e w10 ⟨l, ⟨l0, l1⟩, rfl, hb10, hs10⟩
      have Hs10 := Lib.hid hs10
      clear hs10
      have HB10 : But b w w10 := But.trans (HB9.setNew (by omega) _) hb10
      have hz10 := hb10.size
      (try simp at hz10)
      have hy10 : w.heap.size < w10.heap.size := by omega
      have hx10a := fun o => hb10.cell (c := w.heap.size) (o := o) (by first | omega | (simp; done) | (simp; omega)) (by omega)
      have hf10a := fun o => hb10.frozen (c := w.heap.size) (o := o) (by first | omega | (simp; done) | (simp; omega)) (by omega)
      have hx10r := fun o => hb10.cell (c := w3.heap.size) (o := o) (by first | omega | (simp; done) | (simp; omega)) (by omega)
      have hf10r := fun o => hb10.frozen (c := w3.heap.size) (o := o) (by first | omega | (simp; done) | (simp; omega)) (by omega)
      go_wp2_with fail
      exact bodyPost_ret (v := .agg #[.int .i64 (2 + v), .int .i64 (1 + u), .bool false, .bool sk, .bool re, .bool fe, .bool false, .int .i64 c, .int .i64 l]) (by simp [results, Try.results47, go_sem, hx1a, hx2a, hx3a, hy3, hx4a, hx5a, hx6a, hx7a, hx9a, hx10a]) rfl ⟨_, _, _, _, _, _, _, _, _, by simp [okR]; omega, rfl, ((((((((((HB10.setNew (by omega) _).setNew (Nat.le_refl _) _).setNew (Nat.le_refl _) _).setNew (Nat.le_refl _) _).setNew (Nat.le_refl _) _).setNew (Nat.le_refl _) _).setNew (Nat.le_refl _) _).setNew (Nat.le_refl _) _).setNew (Nat.le_refl _) _).setNew (Nat.le_refl _) _), Src.mono (Src.at Hr.out ((((((((((HB10.setNew (by omega) _).setNew (Nat.le_refl _) _).setNew (Nat.le_refl _) _).setNew (Nat.le_refl _) _).setNew (Nat.le_refl _) _).setNew (Nat.le_refl _) _).setNew (Nat.le_refl _) _).setNew (Nat.le_refl _) _).setNew (Nat.le_refl _) _).setNew (Nat.le_refl _) _) Hs10.out (((((((((((SameAt.refl b w10).setCell (by omega) _).setCell (by omega) _).setCell (by omega) _).setCell (by omega) _).setCell (by omega) _).setCell (by omega) _).setCell (by omega) _).setCell (by omega) _).setCell (by omega) _).setCell (by omega) _)) (by omega)⟩
    · go_wp2_with fail
      refine (one_any b a len cap (K + 2 + 2 + 2 + 2 + 2 + 2 + 2) 2 _ (by exact (Src.at Hr.out (HB7.setNew (by omega) _) Hs7.out ((SameAt.refl b w7).setCell (by omega) _))) (by omega) (by decide) (by decide)).mono ?_
      rintro e w8 ⟨ag, rfl, hb8, hs8⟩
      have Hs8 := Lib.hid hs8
      clear hs8
      have HB8 : But b w w8 := But.trans (HB7.setNew (by omega) _) hb8
      have hz8 := hb8.size
      (try simp at hz8)
      have hy8 : w.heap.size < w8.heap.size := by omega
      have hx8a := fun o => hb8.cell (c := w.heap.size) (o := o) (by first | omega | (simp; done) | (simp; omega)) (by omega)
      have hf8a := fun o => hb8.frozen (c := w.heap.size) (o := o) (by first | omega | (simp; done) | (simp; omega)) (by omega)
      have hx8r := fun o => hb8.cell (c := w3.heap.size) (o := o) (by first | omega | (simp; done) | (simp; omega)) (by omega)
      have hf8r := fun o => hb8.frozen (c := w3.heap.size) (o := o) (by first | omega | (simp; done) | (simp; omega)) (by omega)
      go_wp2_with fail
      refine (pick_any b a len cap (K + 2 + 2 + 2 + 2 + 2 + 2 + 2 + 2) 4 _ (by exact (Src.at Hr.out (HB8.setNew (by omega) _) Hs8.out ((SameAt.refl b w8).setCell (by omega) _))) (by omega) (by decide) (by decide)).mono ?_
      rintro e w9 ⟨c, ⟨c0, c1⟩, rfl, hb9, hs9⟩
      have Hs9 := Lib.hid hs9
      clear hs9
      have HB9 : But b w w9 := But.trans (HB8.setNew (by omega) _) hb9
      have hz9 := hb9.size
      (try simp at hz9)
      have hy9 : w.heap.size < w9.heap.size := by omega
      have hx9a := fun o => hb9.cell (c := w.heap.size) (o := o) (by first | omega | (simp; done) | (simp; omega)) (by omega)
      have hf9a := fun o => hb9.frozen (c := w.heap.size) (o := o) (by first | omega | (simp; done) | (simp; omega)) (by omega)
      have hx9r := fun o => hb9.cell (c := w3.heap.size) (o := o) (by first | omega | (simp; done) | (simp; omega)) (by omega)
      have hf9r := fun o => hb9.frozen (c := w3.heap.size) (o := o) (by first | omega | (simp; done) | (simp; omega)) (by omega)
      go_wp2_with fail
      refine (pick_any b a len cap (K + 2 + 2 + 2 + 2 + 2 + 2 + 2 + 2 + 2) 3 _ (by exact (Src.at Hr.out (HB9.setNew (by omega) _) Hs9.out ((SameAt.refl b w9).setCell (by omega) _))) (by omega) (by decide) (by decide)).mono ?_
      rintro e w10 ⟨l, ⟨l0, l1⟩, rfl, hb10, hs10⟩
      have Hs10 := Lib.hid hs10
      clear hs10
      have HB10 : But b w w10 := But.trans (HB9.setNew (by omega) _) hb10
      have hz10 := hb10.size
      (try simp at hz10)
      have hy10 : w.heap.size < w10.heap.size := by omega
      have hx10a := fun o => hb10.cell (c := w.heap.size) (o := o) (by first | omega | (simp; done) | (simp; omega)) (by omega)
      have hf10a := fun o => hb10.frozen (c := w.heap.size) (o := o) (by first | omega | (simp; done) | (simp; omega)) (by omega)
      have hx10r := fun o => hb10.cell (c := w3.heap.size) (o := o) (by first | omega | (simp; done) | (simp; omega)) (by omega)
      have hf10r := fun o => hb10.frozen (c := w3.heap.size) (o := o) (by first | omega | (simp; done) | (simp; omega)) (by omega)
      go_wp2_with fail
      exact bodyPost_ret (v := .agg #[.int .i64 (2 + v), .int .i64 (1 + u), .bool true, .bool sk, .bool re, .bool fe, .bool ag, .int .i64 c, .int .i64 l]) (by simp [results, Try.results47, go_sem, hx1a, hx2a, hx3a, hy3, hx4a, hx5a, hx6a, hx7a, hx8a, hx9a, hx10a]) rfl ⟨_, _, _, _, _, _, _, _, _, by simp [okR]; omega, rfl, ((((((((((HB10.setNew (by omega) _).setNew (Nat.le_refl _) _).setNew (Nat.le_refl _) _).setNew (Nat.le_refl _) _).setNew (Nat.le_refl _) _).setNew (Nat.le_refl _) _).setNew (Nat.le_refl _) _).setNew (Nat.le_refl _) _).setNew (Nat.le_refl _) _).setNew (Nat.le_refl _) _), Src.mono (Src.at Hr.out ((((((((((HB10.setNew (by omega) _).setNew (Nat.le_refl _) _).setNew (Nat.le_refl _) _).setNew (Nat.le_refl _) _).setNew (Nat.le_refl _) _).setNew (Nat.le_refl _) _).setNew (Nat.le_refl _) _).setNew (Nat.le_refl _) _).setNew (Nat.le_refl _) _).setNew (Nat.le_refl _) _) Hs10.out (((((((((((SameAt.refl b w10).setCell (by omega) _).setCell (by omega) _).setCell (by omega) _).setCell (by omega) _).setCell (by omega) _).setCell (by omega) _).setCell (by omega) _).setCell (by omega) _).setCell (by omega) _).setCell (by omega) _)) (by omega)⟩
end Go.Proofs.Ytgogjjkecbgbiaa
