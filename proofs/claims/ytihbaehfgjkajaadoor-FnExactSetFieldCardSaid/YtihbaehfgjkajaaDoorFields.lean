/- The table of fields that the program makes: nine fields in their order, in memory of its own. No conditions. -/
import Derived.Test.YtihbaehfgjkajaaDoorSlam
import Derived.Laws.AppendOwn
import Derived.OwnWalk
import Derived.Handy
import Derived.Laws.EntriesVeiled
namespace Go.Proofs.YtihbaehfgjkajaaDoor
open Go.Joins Go.ChangeShapes Go.WideShapes Go.ChangeAt Go.RowKit Go.Deep
set_option linter.unusedVariables false

/-- The block g holds these values. -/
def RowV (w : World) (g : Nat) (xs : List Value) : Prop := g < w.heap.size ∧ ∀ (i : Nat) v, xs[i]? = some v → w.cell? ⟨g, i, none⟩ = some v
theorem RowV.below {w w' : World} {g : Nat} {xs : List Value} (h : RowV w g xs) (k : Below w.heap.size w w') : RowV w' g xs :=
  ⟨Nat.lt_of_lt_of_le h.1 k.size, fun i s hs => by rw [k.cell (p := ⟨g, i, none⟩) h.1]; exact h.2 i s hs⟩
theorem rowV_own {w : World} {B e g n cap : Nat} {xs : List Value} (h : w.ownsRow B e 1 (.slice (some ⟨g, 0, none⟩) n cap) n xs) (hn : xs.length = n) : RowV w g xs ∧ B ≤ g := by
  obtain ⟨_, ⟨hv, _⟩ | ⟨g', cap', cur, hv, hb, hg, hm, hc, hs, ht⟩⟩ := h
  · cases hv
  · simp only [Value.slice.injEq, Option.some.injEq, Addr.mk.injEq] at hv
    obtain ⟨⟨rfl, _⟩, _, rfl⟩ := hv
    have hlt : g < w.heap.size := (Array.getElem?_eq_some_iff.1 hg).1
    refine ⟨⟨hlt, fun i s hi => ?_⟩, hb⟩
    have h1 : (cur.toList.take (n * 1))[i]? = some s := by rw [ht]; exact hi
    rw [List.getElem?_take] at h1
    split at h1
    · simpa [World.cell?, hg] using h1
    · cases h1
theorem own_formN {w : World} {B e n : Nat} {v : Value} {xs : List Value} (h : w.ownsRow B e 1 v n xs) (hn : 0 < n) : ∃ g cap, v = .slice (some ⟨g, 0, none⟩) n cap := by
  obtain ⟨_, ⟨hv, h0⟩ | ⟨g', cap', cur, hv, _⟩⟩ := h
  · omega
  · exact ⟨_, _, hv⟩
theorem own_new (w : World) (B e n : Nat) (arr : Array Value) (hB : B ≤ w.heap.size) (hn : arr.size = n) (hm : n ≤ maxLen) : (w.alloc (.cells arr e)).ownsRow B e 1 (.slice (some ⟨w.heap.size, 0, none⟩) n n) n arr.toList :=
  ⟨by simp [hn], .inr ⟨_, n, arr, rfl, hB, heap_alloc_new w _, Nat.le_refl _, hm, by omega, by rw [List.take_of_length_le (by simp [hn])]⟩⟩
theorem grown_keep {w w1 : World} {B e n k T : Nat} {v : Value} {xs : List Value} {arr : Array Value} (hown : w.ownsRow B e 1 v n xs) (hg : w.grownBy w1 v.ownBlock) (hk : w.heap[k]? = some (.cells arr T)) (hT : T ≠ e) :
    w1.heap[k]? = some (.cells arr T) := by
  have hlt : k < w.heap.size := (Array.getElem?_eq_some_iff.1 hk).1
  rw [hg.block k hlt ?_]
  · exact hk
  · intro h
    obtain ⟨_, ⟨rfl, _⟩ | ⟨g', cap', cur, rfl, hb, hg', _⟩⟩ := hown
    · cases h
    · simp only [Value.ownBlock, Option.some.injEq] at h
      subst h
      rw [hk] at hg'
      simp only [Option.some.injEq, Obj.cells.injEq] at hg'
      exact hT hg'.2.1
theorem heap_cell {w : World} {k T : Nat} {arr : Array Value} (hk : w.heap[k]? = some (.cells arr T)) (i : Nat) (v : Value) (hv : arr[i]? = some v) : w.cell? ⟨k, i, none⟩ = some v := by
  simp [World.cell?, hk, hv]

def flagArr : Array Value := #[.string ⟨#[115, 116, 111, 114, 101, 115]⟩, .func (.func 77) #[] #[], .string ⟨#[115, 107, 105, 112]⟩, .func (.func 78) #[] #[], .string ⟨#[114, 101, 108, 97, 121]⟩, .func (.func 79) #[] #[], .string ⟨#[102, 101, 101, 100]⟩, .func (.func 80) #[] #[], .string ⟨#[97, 103, 97, 105, 110]⟩, .func (.func 81) #[] #[]]
def fieldRow (r0 r1 r7 r8 : Value) : List Value := [
  .iface 107 (.agg #[.string ⟨#[112, 105, 116, 115]⟩, .func (.func 67) #[] #[], r0]),
  .iface 107 (.agg #[.string ⟨#[115, 101, 101, 100, 115]⟩, .func (.func 69) #[] #[], r1]),
  .iface 89 (.agg #[.string ⟨#[115, 116, 111, 114, 101, 115]⟩, .func (.func 77) #[] #[]]),
  .iface 89 (.agg #[.string ⟨#[115, 107, 105, 112]⟩, .func (.func 78) #[] #[]]),
  .iface 89 (.agg #[.string ⟨#[114, 101, 108, 97, 121]⟩, .func (.func 79) #[] #[]]),
  .iface 89 (.agg #[.string ⟨#[102, 101, 101, 100]⟩, .func (.func 80) #[] #[]]),
  .iface 89 (.agg #[.string ⟨#[97, 103, 97, 105, 110]⟩, .func (.func 81) #[] #[]]),
  .iface 107 (.agg #[.string ⟨#[99, 97, 112, 116, 117, 114, 101]⟩, .func (.func 70) #[] #[], r7]),
  .iface 107 (.agg #[.string ⟨#[115, 108, 97, 109]⟩, .func (.func 72) #[] #[], r8])]

theorem flags_any (w : World) : Calls Tryd.prog 57 #[] w fun e w' => e = .returned (.slice (some ⟨w.heap.size, 0, none⟩) 5 5) ∧ w' = w.alloc (.cells flagArr 89) := by
  go_enter Tryd.func57, Tryd.ntmps57
  go_wp2
  go_ret
  exact ⟨rfl, rfl⟩

/-- A reader of numbers between two bounds, that lie in cells of its own; a reader of the names of kinds. -/
def NumR (w : World) (r : Value) (lo hi : Int) : Prop := ∃ x y : Nat, r = .func (.func 85) #[] #[.pointer (some ⟨x, 0, none⟩), .pointer (some ⟨y, 0, none⟩)] ∧ x < w.heap.size ∧ y < w.heap.size ∧ w.cell? ⟨x, 0, none⟩ = some (.int .i64 lo) ∧ w.cell? ⟨y, 0, none⟩ = some (.int .i64 hi)
def KindR (w : World) (r : Value) (f : Nat) (hi : Int) : Prop := ∃ x y : Nat, r = .func (.func 87) #[] #[.pointer (some ⟨x, 0, none⟩), .pointer (some ⟨y, 0, none⟩)] ∧ x < w.heap.size ∧ y < w.heap.size ∧ w.cell? ⟨x, 0, none⟩ = some (.func (.func f) #[] #[]) ∧ w.cell? ⟨y, 0, none⟩ = some (.int .i64 hi)
theorem NumR.below {w w' : World} {r : Value} {lo hi : Int} (h : NumR w r lo hi) (k : Below w.heap.size w w') : NumR w' r lo hi := by
  obtain ⟨x, y, e, hx, hy, cx, cy⟩ := h
  exact ⟨x, y, e, Nat.lt_of_lt_of_le hx k.size, Nat.lt_of_lt_of_le hy k.size, by rw [k.cell hx]; exact cx, by rw [k.cell hy]; exact cy⟩
theorem KindR.below {w w' : World} {r : Value} {f : Nat} {hi : Int} (h : KindR w r f hi) (k : Below w.heap.size w w') : KindR w' r f hi := by
  obtain ⟨x, y, e, hx, hy, cx, cy⟩ := h
  exact ⟨x, y, e, Nat.lt_of_lt_of_le hx k.size, Nat.lt_of_lt_of_le hy k.size, by rw [k.cell hx]; exact cx, by rw [k.cell hy]; exact cy⟩

/-- The table, as it stands in the block g. -/
def Table (w : World) (g : Nat) (r0 r1 r7 r8 : Value) : Prop := RowV w g (fieldRow r0 r1 r7 r8) ∧ NumR w r0 2 8 ∧ NumR w r1 1 6 ∧ KindR w r7 55 3 ∧ KindR w r8 56 2
theorem Table.below {w w' : World} {g : Nat} {r0 r1 r7 r8 : Value} (h : Table w g r0 r1 r7 r8) (k : Below w.heap.size w w') : Table w' g r0 r1 r7 r8 :=
  ⟨h.1.below k, h.2.1.below k, h.2.2.1.below k, h.2.2.2.1.below k, h.2.2.2.2.below k⟩
def FieldsP (w : World) (e : Ending) (w' : World) : Prop :=
  ∃ g cap r0 r1 r7 r8, e = .returned (.slice (some ⟨g, 0, none⟩) 9 cap) ∧ Below w.heap.size w w' ∧ g < w'.heap.size ∧ Table w' g r0 r1 r7 r8

/-- What lies below while the table is being made. -/
def Base (B : Nat) (w : World) : Prop := w.heap[B]? = some (.cells #[.int .i64 2] 2) ∧ w.heap[B + 1]? = some (.cells #[.int .i64 8] 2) ∧ w.heap[B + 2]? = some (.cells #[.int .i64 1] 2) ∧ w.heap[B + 3]? = some (.cells #[.int .i64 6] 2) ∧ w.heap[B + 5]? = some (.cells flagArr 89)
theorem heap_alloc_keep {w : World} {k : Nat} {o x : Obj} (h : w.heap[k]? = some x) : (w.alloc o).heap[k]? = some x := by
  rw [Below.heap_alloc w o k (Array.getElem?_eq_some_iff.1 h).1]; exact h
theorem heap_new_at {w : World} {k : Nat} {o : Obj} (h : k = w.heap.size) : (w.alloc o).heap[k]? = some o := by subst h; exact heap_alloc_new w o
theorem alloc_cells {w : World} {k T : Nat} {arr : Array Value} {news : List Value} (hk : k = w.heap.size) (ha : arr.toList = news) : ∀ (j : Nat) u, news[j]? = some u → (w.alloc (.cells arr T)).cell? ((⟨k, 0, none⟩ : Addr).add j) = some u := by
  intro j u hu
  have e : ((⟨k, 0, none⟩ : Addr).add j) = ⟨k, j, none⟩ := by by_cases h : j = 0 <;> simp [Addr.add, h]
  rw [e]
  exact heap_cell (heap_new_at hk) j u (by rw [← Array.getElem?_toList, ha]; exact hu)
theorem Base.alloc {B : Nat} {w : World} (h : Base B w) (o : Obj) : Base B (w.alloc o) :=
  ⟨heap_alloc_keep h.1, heap_alloc_keep h.2.1, heap_alloc_keep h.2.2.1, heap_alloc_keep h.2.2.2.1, heap_alloc_keep h.2.2.2.2⟩
theorem Base.grown {B B' n : Nat} {w w1 : World} {v : Value} {xs : List Value} (h : Base B w) (hown : w.ownsRow B' 69 1 v n xs) (hg : w.grownBy w1 v.ownBlock) : Base B w1 :=
  ⟨grown_keep hown hg h.1 (by decide), grown_keep hown hg h.2.1 (by decide), grown_keep hown hg h.2.2.1 (by decide), grown_keep hown hg h.2.2.2.1 (by decide), grown_keep hown hg h.2.2.2.2 (by decide)⟩

theorem infoF : (Tryd.prog.info? 69).map (fun i => (i.zero, i.size, i.bytes)) = some (some .nilIface, 1, 16) := by kernel_rfl
def R0 (B : Nat) : Value := .func (.func 85) #[] #[.pointer (some ⟨B, 0, none⟩), .pointer (some ⟨B + 1, 0, none⟩)]
def K0 (B : Nat) : Value := .func (.func 87) #[] #[.pointer (some ⟨B, 0, none⟩), .pointer (some ⟨B + 1, 0, none⟩)]

set_option maxHeartbeats 4000000 in
theorem fields_any (w : World) : Calls Tryd.prog 42 #[] w (FieldsP w) := by
  obtain ⟨i0, hi, hz0, hz1, hz2⟩ := info_parts infoF
  go_enter Tryd.func42, Tryd.ntmps42
  go_wp2_with (first | (go_at_call 68; go_in) | (go_at_call 57; refine (flags_any _).mono ?_; rintro e w1 ⟨rfl, rfl⟩))
  go_loopw [13, 1] (fun k v wr => ∃ (n : Nat), n ≤ 5 ∧ k = .int .i64 n ∧ wr.ownsRow w.heap.size 69 1 v (2 + n) ((fieldRow (R0 w.heap.size) (R0 (w.heap.size + 2)) .nilFunc .nilFunc).take (2 + n)) ∧ Below w.heap.size w wr ∧ Base w.heap.size wr) (fun k _ _ => 5 - (intOf k).toNat)
  case atStart =>
    refine ⟨0, by omega, rfl, ?_, ?_, ?_⟩
    · have h := (own_new ((((w.alloc (.cells #[.int .i64 2] 2)).alloc (.cells #[.int .i64 8] 2)).alloc (.cells #[.int .i64 1] 2)).alloc (.cells #[.int .i64 6] 2)) w.heap.size 69 2 ((fieldRow (R0 w.heap.size) (R0 (w.heap.size + 2)) .nilFunc .nilFunc).take 2).toArray (by simp; omega) rfl (by decide)).alloc (.cells flagArr 89)
      simp only [World.size_alloc] at h
      exact h
    · exact (((((((Below.refl w.heap.size w).alloc (by simp) _).alloc (by simp) _).alloc (by simp; omega) _).alloc (by simp; omega) _).alloc (by simp; omega) _).alloc (by simp; omega) _)
    · refine ⟨?_, ?_, ?_, ?_, ?_⟩ <;> repeat (first | exact heap_new_at (by simp; done) | apply heap_alloc_keep)
  case round =>
    obtain ⟨n, hn, rfl, hown, hbl, hbase⟩ := hrel
    have HO := Lib.hid hown
    have HB := Lib.hid hbl
    have HA := Lib.hid hbase
    have hsz := hbl.size
    obtain ⟨g, cap, rfl⟩ := own_formN hown (by omega)
    have hgB := hown.lt g rfl
    clear hown hbl hbase
    by_cases hlt : n < 5
    · rcases (by omega : n = 0 ∨ n = 1 ∨ n = 2 ∨ n = 3 ∨ n = 4) with rfl | rfl | rfl | rfl | rfl
      · have c0 : wr.cell? ⟨w.heap.size + 1 + 1 + 1 + 1 + 1, 0, none⟩ = some (.string ⟨#[115, 116, 111, 114, 101, 115]⟩) := heap_cell HA.out.2.2.2.2 0 _ rfl
        have c1 : wr.cell? ⟨w.heap.size + 1 + 1 + 1 + 1 + 1, 1, none⟩ = some (.func (.func 77) #[] #[]) := heap_cell HA.out.2.2.2.2 1 _ rfl
        have hzF : w.heap.size + 1 + 1 + 1 + 1 + 1 < wr.heap.size := (Array.getElem?_eq_some_iff.1 HA.out.2.2.2.2).1
        go_wp2_with (at_builtin; refine wpList_append_own _ rfl _ _ 66 rfl w.heap.size 69 i0 .nilIface 1 16 Tryd.underlying66 hi hz0 hz1 hz2 rfl (by decide) _ (2 + 0) _ rfl ((HO.out.alloc _).alloc _) ⟨wr.heap.size + 1, 0, none⟩ 1 1 [.iface 89 (.agg #[.string ⟨#[115, 116, 111, 114, 101, 115]⟩, .func (.func 77) #[] #[]])] rfl rfl (fun j' u hu => by match j', hu with | 0, hu => (cases hu; simp [Addr.add])) (by simp [Value.oneCell']) (by unfold maxLen; omega) (by omega) (by simp; omega) ?_; intro v' w1 hown1 hgrow1 hnil1)
        go_roundw
        case rel => exact ⟨0 + 1, by omega, by go_num, hown1, ((HB.out.alloc hsz _).alloc (by simp; omega) _).grown hgrow1 (by simp; omega) (fun q hq => by cases hq; exact hgB.1), ((HA.out.alloc _).alloc _).grown ((HO.out.alloc _).alloc _) hgrow1⟩
        case measure => simp [intOf]
      · have c0 : wr.cell? ⟨w.heap.size + 1 + 1 + 1 + 1 + 1, 2, none⟩ = some (.string ⟨#[115, 107, 105, 112]⟩) := heap_cell HA.out.2.2.2.2 2 _ rfl
        have c1 : wr.cell? ⟨w.heap.size + 1 + 1 + 1 + 1 + 1, 3, none⟩ = some (.func (.func 78) #[] #[]) := heap_cell HA.out.2.2.2.2 3 _ rfl
        have hzF : w.heap.size + 1 + 1 + 1 + 1 + 1 < wr.heap.size := (Array.getElem?_eq_some_iff.1 HA.out.2.2.2.2).1
        go_wp2_with (at_builtin; refine wpList_append_own _ rfl _ _ 66 rfl w.heap.size 69 i0 .nilIface 1 16 Tryd.underlying66 hi hz0 hz1 hz2 rfl (by decide) _ (2 + 1) _ rfl ((HO.out.alloc _).alloc _) ⟨wr.heap.size + 1, 0, none⟩ 1 1 [.iface 89 (.agg #[.string ⟨#[115, 107, 105, 112]⟩, .func (.func 78) #[] #[]])] rfl rfl (fun j' u hu => by match j', hu with | 0, hu => (cases hu; simp [Addr.add])) (by simp [Value.oneCell']) (by unfold maxLen; omega) (by omega) (by simp; omega) ?_; intro v' w1 hown1 hgrow1 hnil1)
        go_roundw
        case rel => exact ⟨1 + 1, by omega, by go_num, hown1, ((HB.out.alloc hsz _).alloc (by simp; omega) _).grown hgrow1 (by simp; omega) (fun q hq => by cases hq; exact hgB.1), ((HA.out.alloc _).alloc _).grown ((HO.out.alloc _).alloc _) hgrow1⟩
        case measure => simp [intOf]
      · have c0 : wr.cell? ⟨w.heap.size + 1 + 1 + 1 + 1 + 1, 4, none⟩ = some (.string ⟨#[114, 101, 108, 97, 121]⟩) := heap_cell HA.out.2.2.2.2 4 _ rfl
        have c1 : wr.cell? ⟨w.heap.size + 1 + 1 + 1 + 1 + 1, 5, none⟩ = some (.func (.func 79) #[] #[]) := heap_cell HA.out.2.2.2.2 5 _ rfl
        have hzF : w.heap.size + 1 + 1 + 1 + 1 + 1 < wr.heap.size := (Array.getElem?_eq_some_iff.1 HA.out.2.2.2.2).1
        go_wp2_with (at_builtin; refine wpList_append_own _ rfl _ _ 66 rfl w.heap.size 69 i0 .nilIface 1 16 Tryd.underlying66 hi hz0 hz1 hz2 rfl (by decide) _ (2 + 2) _ rfl ((HO.out.alloc _).alloc _) ⟨wr.heap.size + 1, 0, none⟩ 1 1 [.iface 89 (.agg #[.string ⟨#[114, 101, 108, 97, 121]⟩, .func (.func 79) #[] #[]])] rfl rfl (fun j' u hu => by match j', hu with | 0, hu => (cases hu; simp [Addr.add])) (by simp [Value.oneCell']) (by unfold maxLen; omega) (by omega) (by simp; omega) ?_; intro v' w1 hown1 hgrow1 hnil1)
        go_roundw
        case rel => exact ⟨2 + 1, by omega, by go_num, hown1, ((HB.out.alloc hsz _).alloc (by simp; omega) _).grown hgrow1 (by simp; omega) (fun q hq => by cases hq; exact hgB.1), ((HA.out.alloc _).alloc _).grown ((HO.out.alloc _).alloc _) hgrow1⟩
        case measure => simp [intOf]
      · have c0 : wr.cell? ⟨w.heap.size + 1 + 1 + 1 + 1 + 1, 6, none⟩ = some (.string ⟨#[102, 101, 101, 100]⟩) := heap_cell HA.out.2.2.2.2 6 _ rfl
        have c1 : wr.cell? ⟨w.heap.size + 1 + 1 + 1 + 1 + 1, 7, none⟩ = some (.func (.func 80) #[] #[]) := heap_cell HA.out.2.2.2.2 7 _ rfl
        have hzF : w.heap.size + 1 + 1 + 1 + 1 + 1 < wr.heap.size := (Array.getElem?_eq_some_iff.1 HA.out.2.2.2.2).1
        go_wp2_with (at_builtin; refine wpList_append_own _ rfl _ _ 66 rfl w.heap.size 69 i0 .nilIface 1 16 Tryd.underlying66 hi hz0 hz1 hz2 rfl (by decide) _ (2 + 3) _ rfl ((HO.out.alloc _).alloc _) ⟨wr.heap.size + 1, 0, none⟩ 1 1 [.iface 89 (.agg #[.string ⟨#[102, 101, 101, 100]⟩, .func (.func 80) #[] #[]])] rfl rfl (fun j' u hu => by match j', hu with | 0, hu => (cases hu; simp [Addr.add])) (by simp [Value.oneCell']) (by unfold maxLen; omega) (by omega) (by simp; omega) ?_; intro v' w1 hown1 hgrow1 hnil1)
        go_roundw
        case rel => exact ⟨3 + 1, by omega, by go_num, hown1, ((HB.out.alloc hsz _).alloc (by simp; omega) _).grown hgrow1 (by simp; omega) (fun q hq => by cases hq; exact hgB.1), ((HA.out.alloc _).alloc _).grown ((HO.out.alloc _).alloc _) hgrow1⟩
        case measure => simp [intOf]
      · have c0 : wr.cell? ⟨w.heap.size + 1 + 1 + 1 + 1 + 1, 8, none⟩ = some (.string ⟨#[97, 103, 97, 105, 110]⟩) := heap_cell HA.out.2.2.2.2 8 _ rfl
        have c1 : wr.cell? ⟨w.heap.size + 1 + 1 + 1 + 1 + 1, 9, none⟩ = some (.func (.func 81) #[] #[]) := heap_cell HA.out.2.2.2.2 9 _ rfl
        have hzF : w.heap.size + 1 + 1 + 1 + 1 + 1 < wr.heap.size := (Array.getElem?_eq_some_iff.1 HA.out.2.2.2.2).1
        go_wp2_with (at_builtin; refine wpList_append_own _ rfl _ _ 66 rfl w.heap.size 69 i0 .nilIface 1 16 Tryd.underlying66 hi hz0 hz1 hz2 rfl (by decide) _ (2 + 4) _ rfl ((HO.out.alloc _).alloc _) ⟨wr.heap.size + 1, 0, none⟩ 1 1 [.iface 89 (.agg #[.string ⟨#[97, 103, 97, 105, 110]⟩, .func (.func 81) #[] #[]])] rfl rfl (fun j' u hu => by match j', hu with | 0, hu => (cases hu; simp [Addr.add])) (by simp [Value.oneCell']) (by unfold maxLen; omega) (by omega) (by simp; omega) ?_; intro v' w1 hown1 hgrow1 hnil1)
        go_roundw
        case rel => exact ⟨4 + 1, by omega, by go_num, hown1, ((HB.out.alloc hsz _).alloc (by simp; omega) _).grown hgrow1 (by simp; omega) (fun q hq => by cases hq; exact hgB.1), ((HA.out.alloc _).alloc _).grown ((HO.out.alloc _).alloc _) hgrow1⟩
        case measure => simp [intOf]
    · obtain rfl : n = 5 := by omega
      go_wp2_with (first | (go_at_call 71; go_in) | (at_builtin; refine wpList_append_own _ rfl _ _ 66 rfl w.heap.size 69 i0 .nilIface 1 16 Tryd.underlying66 hi hz0 hz1 hz2 rfl (by decide) _ (2 + 5) _ rfl (((((HO.out.alloc _).alloc _).alloc _).alloc _).alloc _) ⟨wr.heap.size + 1 + 1 + 1 + 1, 0, none⟩ 2 2 ((fieldRow (R0 w.heap.size) (R0 (w.heap.size + 2)) (K0 wr.heap.size) (K0 (wr.heap.size + 2))).drop 7) rfl rfl (alloc_cells (by simp) rfl) (by simp [fieldRow, Value.oneCell']) (by unfold maxLen; omega) (by omega) (by simp; omega) ?_; intro v' w1 hown1 hgrow1 hnil1))
      obtain ⟨g', cap', rfl⟩ := own_formN hown1 (by omega)
      go_ret
      have A1 := ((((((HA.out.alloc _).alloc _).alloc _).alloc _).alloc _).grown (((((HO.out.alloc _).alloc _).alloc _).alloc _).alloc _) hgrow1)
      have hk : ∀ (k T : Nat) (arr : Array Value), T ≠ 69 → _ := fun k T arr hT hk => grown_keep (k := k) (T := T) (arr := arr) (((((HO.out.alloc _).alloc _).alloc _).alloc _).alloc _) hgrow1 hk hT
      have q0 := hk wr.heap.size 83 #[.func (.func 55) #[] #[]] (by decide) (by repeat (first | exact heap_new_at (by simp; done) | apply heap_alloc_keep))
      have q1 := hk (wr.heap.size + 1) 2 #[.int .i64 3] (by decide) (by repeat (first | exact heap_new_at (by simp; done) | apply heap_alloc_keep))
      have q2 := hk (wr.heap.size + 1 + 1) 83 #[.func (.func 56) #[] #[]] (by decide) (by repeat (first | exact heap_new_at (by simp; done) | apply heap_alloc_keep))
      have q3 := hk (wr.heap.size + 1 + 1 + 1) 2 #[.int .i64 2] (by decide) (by repeat (first | exact heap_new_at (by simp; done) | apply heap_alloc_keep))
      have hlt := fun {k : Nat} {x : Obj} (h : w1.heap[k]? = some x) => (Array.getElem?_eq_some_iff.1 h).1
      obtain ⟨hrow, hB⟩ := rowV_own hown1 rfl
      refine ⟨g', cap', R0 w.heap.size, R0 (w.heap.size + 2), K0 wr.heap.size, K0 (wr.heap.size + 2), rfl, ?_, hrow.1, hrow, ⟨_, _, rfl, hlt A1.1, hlt A1.2.1, heap_cell A1.1 0 _ rfl, heap_cell A1.2.1 0 _ rfl⟩, ⟨_, _, rfl, hlt A1.2.2.1, hlt A1.2.2.2.1, heap_cell A1.2.2.1 0 _ rfl, heap_cell A1.2.2.2.1 0 _ rfl⟩, ⟨_, _, rfl, hlt q0, hlt q1, heap_cell q0 0 _ rfl, heap_cell q1 0 _ rfl⟩, ⟨_, _, rfl, hlt q2, hlt q3, heap_cell q2 0 _ rfl, heap_cell q3 0 _ rfl⟩⟩
      exact (((((HB.out.alloc hsz _).alloc (by simp; omega) _).alloc (by simp; omega) _).alloc (by simp; omega) _).alloc (by simp; omega) _).grown hgrow1 (by simp; omega) (fun q hq => by cases hq; exact hgB.1)
end Go.Proofs.YtihbaehfgjkajaaDoor
