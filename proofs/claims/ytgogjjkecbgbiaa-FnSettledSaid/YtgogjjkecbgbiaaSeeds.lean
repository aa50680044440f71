/- The number of all seeds of a position, as the program counts it. No conditions. -/
import Derived.Test.YtgogjjkecbgbiaaNums
namespace Go.Proofs.Ytgogjjkecbgbiaa
open Go.RowKit Go.Shelf
attribute [local go_sem] Oper.semAt_some
set_option linter.unusedVariables false

theorem posB_app (xs ys : List Int) : posB (xs ++ ys) = (posB xs && posB ys) := by simp [posB]
theorem posB_snoc (xs : List Int) (x : Int) : posB (xs ++ [x]) = (posB xs && decide (0 ≤ x)) := by simp [posB]
theorem seedB_app (xs ys : List Int) : seedB xs ys = (posB (xs ++ ys) && decide (tot (xs ++ ys) ≤ 96)) := by
  unfold seedB
  rw [posB_app, tot_app]
theorem posB_drop {zs : List Int} (h : posB zs = true) (k : Nat) : posB (zs.drop k) = true := by
  unfold posB at h ⊢
  rw [List.all_eq_true] at h ⊢
  exact fun x hx => h x (List.mem_of_mem_drop hx)
theorem tot_split {zs : List Int} {k : Nat} {x : Int} (hx : zs[k]? = some x) : tot zs = tot (zs.take k) + x + tot (zs.drop (k + 1)) := by
  have e : tot (zs.take (k + 1) ++ zs.drop (k + 1)) = tot zs := congrArg tot (List.take_append_drop _ _)
  rw [← e, tot_app, take_next hx, tot_snoc]
theorem seedB_neg {xs ys : List Int} {k : Nat} {x : Int} (hx : (xs ++ ys)[k]? = some x) (h : x < 0) : seedB xs ys = false := by
  rw [seedB_app]
  cases e : posB (xs ++ ys)
  · rfl
  · have := posB_mem e hx
    omega
theorem seedB_big {xs ys : List Int} {k : Nat} {x t : Int} (hx : (xs ++ ys)[k]? = some x) (ht : t = tot ((xs ++ ys).take k)) (h : 96 - t < x) : seedB xs ys = false := by
  rw [seedB_app]
  cases e : posB (xs ++ ys)
  · rfl
  · have h1 := posB_tot (posB_drop e (k + 1))
    have h2 := tot_split hx
    rw [decide_eq_false (by omega)]
    rfl

/-- The number of seeds. -/
def seedV (k : Bool) (t : Int) : Int := if k then t else 0
/-- What counting leaves. -/
def SeedP (xs ys : List Int) (w : World) (e : Ending) (w' : World) : Prop :=
  e = .returned (.tuple #[.int .i64 (seedV (seedB xs ys) (tot xs + tot ys)), .bool (seedB xs ys)]) ∧ Below w.heap.size w w'

/-- Between two rounds: the results as they began, the sum so far. -/
structure SeedI (w : World) (zs : List Int) (k : Nat) (W : World) : Prop where
  below : Below w.heap.size w W
  c1 : W.cell? ⟨w.heap.size + 1, 0, none⟩ = some (.int .i64 0)
  c2 : W.cell? ⟨w.heap.size + 1 + 1, 0, none⟩ = some (.bool false)
  f1 : W.frozen? ⟨w.heap.size + 1, 0, none⟩ = false
  f2 : W.frozen? ⟨w.heap.size + 1 + 1, 0, none⟩ = false
  f3 : W.frozen? ⟨w.heap.size + 1 + 1 + 1, 0, none⟩ = false
  sum : ∃ t, W.cell? ⟨w.heap.size + 1 + 1 + 1, 0, none⟩ = some (.int .i64 t) ∧ t = tot (zs.take k) ∧ t ≤ 96
  pos : posB (zs.take k) = true
/-- Behind a number that no valid position has. -/
structure SeedX (w : World) (no : Prop) (c : Code) (W : World) : Prop where
  ret : c = .ret
  below : Below w.heap.size w W
  c1 : W.cell? ⟨w.heap.size + 1, 0, none⟩ = some (.int .i64 0)
  c2 : W.cell? ⟨w.heap.size + 1 + 1, 0, none⟩ = some (.bool false)
  no : no
theorem SeedI.tame {w A Z : World} {zs : List Int} {k B : Nat} (h : SeedI w zs k A) (t : Tame B A Z) (hB : w.heap.size ≤ B) : SeedI w zs k Z := by
  obtain ⟨s, hs, ht, hle⟩ := h.sum
  exact ⟨Tame.below h.below t hB (Nat.le_refl _), (t.cell h.c1).1, (t.cell h.c2).1, (t.cell h.c1).2.trans h.f1, (t.cell h.c2).2.trans h.f2, (t.cell hs).2.trans h.f3, ⟨s, (t.cell hs).1, ht, hle⟩, h.pos⟩
theorem SeedX.tame {w A Z : World} {no : Prop} {c : Code} {B : Nat} (h : SeedX w no c A) (t : Tame B A Z) (hB : w.heap.size ≤ B) : SeedX w no c Z :=
  ⟨h.ret, Tame.below h.below t hB (Nat.le_refl _), (t.cell h.c1).1, (t.cell h.c2).1, h.no⟩
theorem SeedI.start (w : World) (zs : List Int) (u : Array Value) (t1 t2 t3 : TypeId) : SeedI w zs 0 ((((w.alloc (.cells u t1)).alloc (.cells #[.int .i64 0] t2)).alloc (.cells #[.bool false] t3)).alloc (.cells #[.int .i64 0] t2)) :=
  ⟨((((Below.refl _ _).alloc (Nat.le_refl _) _).alloc (by simp) _).alloc (by simp; omega) _).alloc (by simp; omega) _, by go_simp, by go_simp, by go_simp, by go_simp, by go_simp, ⟨0, by go_simp, rfl, by omega⟩, rfl⟩

set_option maxHeartbeats 4000000 in
set_option maxRecDepth 100000 in
theorem seeds_any (p1 p2 : Option Addr) (pn1 pc1 pn2 pc2 : Nat) (pp : Int) (xs ys : List Int) (w : World) (h : PosR w p1 p2 pn1 pn2 xs ys) :
    Calls Try.prog 39 #[.agg #[.slice p1 pn1 pc1, .slice p2 pn2 pc2, .int .i64 pp]] w (SeedP xs ys w) := by
  have H := Lib.hid h
  clear h
  refine callsIn_wide (n := 3).1 ?_
  refine callsIn_of_wp_marks Try.func39 rfl trivial ?_ rfl
  simp only [Try.ntmps39, List.size_toArray, List.length_cons, List.length_nil, Nat.reduceAdd, Nat.reduceSub, Array.replicate_succ, Array.replicate_zero, List.push_toArray, List.append_toArray, List.nil_append, List.cons_append]
  gi_wp2
  have hst := SeedI.start w (xs ++ ys) #[.slice p1 pn1 pc1, .slice p2 pn2 pc2, .int .i64 pp] 28 2 4
  generalize hw1 : ((((w.alloc (.cells #[.slice p1 pn1 pc1, .slice p2 pn2 pc2, .int .i64 pp] 28)).alloc (.cells #[.int .i64 0] 2)).alloc (.cells #[.bool false] 4)).alloc (.cells #[.int .i64 0] 2)) = w1 at *
  have hsz : w1.heap.size = w.heap.size + 1 + 1 + 1 + 1 := by rw [← hw1]; simp
  have Hst := Lib.hid hst
  have Hsz : w.heap.size + 1 + 1 + 1 + 1 ≤ w1.heap.size := by omega
  clear hw1 hst hsz
  refine range_hands (gf := 52) (fb := #[.agg #[.slice p1 pn1 pc1, .slice p2 pn2 pc2, .int .i64 pp]]) rfl (by omega) rfl trivial (enters_of Try.func52 (by kernel_rfl) rfl)
    (numbers_hands Fence.wide (3 - 1) trivial rfl (by omega) p1 p2 pn1 pc1 pn2 pc2 pp xs ys w H.out) Hst.out.below (by omega) (fun _ => rfl)
    (SeedI w (xs ++ ys)) (SeedX w (seedB xs ys = false)) (fun k A Z hi ht => hi.tame ht (by omega)) (fun c A Z hi ht => hi.tame ht (by omega)) Hst.out
    (fun x => { tmps := #[.agg #[.slice p1 pn1 pc1, .slice p2 pn2 pc2, .int .i64 pp], .pointer (some ⟨w.heap.size, 0, none⟩), .pointer (some ⟨w.heap.size + 1, 0, none⟩), .pointer (some ⟨w.heap.size + 1 + 1, 0, none⟩), .pointer (some ⟨w.heap.size + 1 + 1 + 1, 0, none⟩), .int .i64 x, .agg #[.slice p1 pn1 pc1, .slice p2 pn2 pc2, .int .i64 pp], .func (.func 52) #[.agg #[.slice p1 pn1 pc1, .slice p2 pn2 pc2, .int .i64 pp]] #[], .int .i64 x, undef, undef, undef, undef, undef, undef, undef, undef, undef, undef, undef, undef], defers := [] }) ?assign ?body ?done ?stop
  case assign =>
    intro l x W K hK
    unfold encN
    gi_wp2
    exact hK
  case body =>
    intro l k x W hi hx
    obtain ⟨t, c3, ht, hle⟩ := hi.sum
    have hp := posB_tot hi.pos
    rw [← ht] at hp
    have c1 := hi.c1
    have c2 := hi.c2
    have f1 := hi.f1
    have f2 := hi.f2
    have f3 := hi.f3
    have Hi := Lib.hid hi
    have Hx := Lib.hid hx
    have Ht := Lib.hid ht
    clear hi hx ht
    by_cases hneg : x < 0
    · have HX : Hid (seedB xs ys = false) := Lib.hid (seedB_neg Hx.out hneg)
      gi_wp2
      exact ⟨(KeepsOthers.setCell _ _ _).trans (KeepsOthers.setCell _ _ _), ⟨rfl, (Hi.out.below.setCell (p := ⟨w.heap.size + 1, 0, none⟩) (by simp) _).setCell (p := ⟨w.heap.size + 1 + 1, 0, none⟩) (by simp; omega) _, by go_simp, by go_simp, HX.out⟩⟩
    · by_cases hbig : 96 - t < x
      · have HX : Hid (seedB xs ys = false) := Lib.hid (seedB_big Hx.out Ht.out hbig)
        have q0 : 0 ≤ x := by omega
        clear hneg
        gi_wp2
        exact ⟨(KeepsOthers.setCell _ _ _).trans (KeepsOthers.setCell _ _ _), ⟨rfl, (Hi.out.below.setCell (p := ⟨w.heap.size + 1, 0, none⟩) (by simp) _).setCell (p := ⟨w.heap.size + 1 + 1, 0, none⟩) (by simp; omega) _, by go_simp, by go_simp, HX.out⟩⟩
      · have q0 : 0 ≤ x := by omega
        have q1 : x ≤ 96 - t := by omega
        clear hneg hbig
        gi_wp2
        refine ⟨KeepsOthers.setCell _ _ _, (Below.refl _ _).setCell (p := ⟨w.heap.size + 1 + 1 + 1, 0, none⟩) (by simp; omega) _, ⟨Hi.out.below.setCell (p := ⟨w.heap.size + 1 + 1 + 1, 0, none⟩) (by simp; omega) _, by go_simp, by go_simp, by go_simp, by go_simp, by go_simp, ⟨t + x, by go_simp, ?_, by omega⟩, ?_⟩⟩
        · rw [take_next Hx.out, tot_snoc, ← Ht.out]
        · rw [take_next Hx.out, posB_snoc, Hi.out.pos, decide_eq_true q0]
          rfl
  case done =>
    intro D W hD hi hK
    obtain ⟨t, c3, ht, hle⟩ := hi.sum
    rw [List.take_of_length_le (Nat.le_refl _)] at ht
    have hpos := hi.pos
    rw [List.take_of_length_le (Nat.le_refl _)] at hpos
    have hok : seedB xs ys = true := by rw [seedB_app, hpos, decide_eq_true (by omega)]; rfl
    have hv : t = tot xs + tot ys := by rw [ht, tot_app]
    have c1 := hi.c1
    have c2 := hi.c2
    have f1 := hi.f1
    have f2 := hi.f2
    have Hi := Lib.hid hi
    have HK := Lib.hid hK
    have Hok := Lib.hid hok
    have Hv := Lib.hid hv
    clear hi ht hpos hok hv hK
    gi_wp2
    have hK2 := ((KeepsOthers.setCell W ⟨w.heap.size + 1, 0, none⟩ (.int .i64 t)).trans (KeepsOthers.setCell _ ⟨w.heap.size + 1 + 1, 0, none⟩ (.bool true))).same D _ HK.out rfl
    refine ⟨by simp, .inl ⟨_, _, rfl, run_takeDeferred hK2, ?_⟩⟩
    have ht := Tame.putObj (B := w1.heap.size) hD hK2 rfl (.deferred none)
    have y1 := (ht.cell (b := w.heap.size + 1) (o := 0) (v := .int .i64 t) (by go_simp)).1
    have y2 := (ht.cell (b := w.heap.size + 1 + 1) (o := 0) (v := .bool true) (by go_simp)).1
    refine ⟨.tuple #[.int .i64 t, .bool true], by simp [results, Try.f39, go_sem, y1, y2], ?_, ?_⟩
    · rw [Hok.out, Hv.out]
      rfl
    · exact Tame.below ((Hi.out.below.setCell (p := ⟨w.heap.size + 1, 0, none⟩) (by simp) _).setCell (p := ⟨w.heap.size + 1 + 1, 0, none⟩) (by simp; omega) _) ht (by omega) (Nat.le_refl _)
  case stop =>
    intro D c W hD hi hK
    obtain ⟨rfl, hb, c1, c2, hno⟩ := hi
    have HK := Lib.hid hK
    have Hb := Lib.hid hb
    have Hno := Lib.hid hno
    clear hK hb hno
    gi_wp2
    refine ⟨by simp, .inl ⟨_, _, rfl, run_takeDeferred HK.out, ?_⟩⟩
    have ht := Tame.putObj (B := w1.heap.size) hD HK.out rfl (.deferred none)
    have y1 := (ht.cell c1).1
    have y2 := (ht.cell c2).1
    refine ⟨.tuple #[.int .i64 0, .bool false], by simp [results, Try.f39, go_sem, y1, y2], ?_, ?_⟩
    · rw [Hno.out]
      rfl
    · exact Tame.below Hb.out ht (by omega) (Nat.le_refl _)
end Go.Proofs.Ytgogjjkecbgbiaa
