/- Decimal of the reference and of the program return the same, and so the law on it holds (over the table of powers of ten as the library's text lays it). No conditions. -/
import Derived.Test.YtmoilphgibigkaaDoorOpen
import Derived.Laws.AppendOwn
import Derived.OwnWalk
import Derived.Lib.ItoaNum
namespace Go.Proofs.YtmoilphgibigkaaDoor
open Go.Joins Go.ChangeShapes Go.WideShapes Go.ChangeAt Go.RowKit Go.Deep
open Go.ChangeMaps (open_string shut_string)
set_option linter.unusedVariables false

def bv (ds : List UInt8) : List Value := ds.map fun d => .int .u8 (d.toNat : Int)
/-- What the loop over the digits of n has done: K is left, ds are the digits behind. -/
def DecR (n K : Int) (ds : List UInt8) : Prop :=
  K.natAbs * 10 ^ ds.length ≤ n.natAbs ∧ (0 < K → 0 < n) ∧ (K < 0 → n < 0) ∧
  ((K = 0 ∧ ((n = 0 ∧ ds = []) ∨ (n ≠ 0 ∧ ds = Lib.decDigits n.natAbs))) ∨ (K ≠ 0 ∧ Lib.decDigits n.natAbs = Lib.decDigits K.natAbs ++ ds))
theorem dec_start (n : Int) : DecR n n [] := by
  refine ⟨by simp, id, id, ?_⟩
  by_cases h : n = 0
  · exact .inl ⟨h, .inl ⟨h, rfl⟩⟩
  · exact .inr ⟨h, by simp⟩
theorem dec_len {n K : Int} {ds : List UInt8} (h : DecR n K ds) (hK : K ≠ 0) (hn : n.natAbs ≤ 9223372036854775808) : ds.length ≤ 19 := by
  have h1 : 1 * 10 ^ ds.length ≤ n.natAbs := Nat.le_trans (Nat.mul_le_mul_right _ (by omega)) h.1
  by_cases hl : ds.length ≤ 19
  · exact hl
  · have h2 : 10 ^ 20 ≤ 10 ^ ds.length := Nat.pow_le_pow_right (by decide) (by omega)
    have h3 : (10 : Nat) ^ 20 = 100000000000000000000 := by decide
    omega
theorem dec_bound {n K : Int} {ds : List UInt8} (h : DecR n K ds) : K.natAbs ≤ n.natAbs :=
  Nat.le_trans (Nat.le_mul_of_pos_right _ (Nat.pow_pos (by decide))) h.1
theorem dec_step {n K K' : Int} {ds : List UInt8} (h : DecR n K ds) (hK : K ≠ 0) (hk : K'.natAbs = K.natAbs / 10) (hp : 0 < K' → 0 < K) (hm : K' < 0 → K < 0) :
    DecR n K' (UInt8.ofNat (48 + K.natAbs % 10) :: ds) := by
  obtain ⟨h1, h2, h3, h4⟩ := h
  have h4 := h4.resolve_left (fun x => hK x.1)
  refine ⟨?_, fun x => h2 (hp x), fun x => h3 (hm x), ?_⟩
  · refine Nat.le_trans ?_ h1
    rw [List.length_cons, Nat.pow_succ, Nat.mul_comm _ 10, ← Nat.mul_assoc, hk]
    exact Nat.mul_le_mul_right _ (Nat.div_mul_le_self _ _)
  · have hn0 : n ≠ 0 := by
      intro hn
      have := dec_bound ⟨h1, h2, h3, .inr h4⟩
      omega
    by_cases h0 : K' = 0
    · have hlt : K.natAbs < 10 := by omega
      refine .inl ⟨h0, .inr ⟨hn0, ?_⟩⟩
      rw [h4.2, Lib.decDigits, dif_pos hlt, Nat.mod_eq_of_lt hlt]
      rfl
    · have hlt : ¬ K.natAbs < 10 := by omega
      refine .inr ⟨h0, ?_⟩
      rw [h4.2, Lib.decDigits, dif_neg hlt, hk]
      simp
theorem dec_end {n : Int} {ds : List UInt8} (h : DecR n 0 ds) : (n = 0 ∧ ds = []) ∨ (0 < n ∧ ds = Lib.itoa n ∧ ds ≠ []) ∨ (n < 0 ∧ 45 :: ds = Lib.itoa n ∧ ds ≠ []) := by
  obtain ⟨_, _, _, h | h⟩ := h
  · rcases h.2 with h | ⟨h0, rfl⟩
    · exact .inl h
    · have hne : Lib.decDigits n.natAbs ≠ [] := by
        rw [Lib.decDigits]
        split <;> simp
      by_cases hp : 0 < n
      · refine .inr (.inl ⟨hp, ?_, hne⟩)
        unfold Lib.itoa
        rw [if_neg (by omega), show n.natAbs = n.toNat by omega]
      · refine .inr (.inr ⟨by omega, ?_, hne⟩)
        unfold Lib.itoa
        rw [if_pos (by omega)]
  · exact absurd rfl h.1

theorem own1 (w : World) (B : Nat) (x : Value) (hB : B ≤ w.heap.size) : (w.alloc (.cells #[x] 5)).ownsRow B 5 1 (.slice (some ⟨w.heap.size, 0, none⟩) 1 1) 1 [x] :=
  ⟨rfl, .inr ⟨_, 1, #[x], rfl, hB, heap_alloc_new w _, Nat.le_refl _, by decide, rfl, rfl⟩⟩
theorem own_cells {w : World} {B e : Nat} {g cap : Nat} {ds : List UInt8} (h : w.ownsRow B e 1 (.slice (some ⟨g, 0, none⟩) ds.length cap) ds.length (bv ds)) (j : Nat) (u : Value) (hj : (bv ds)[j]? = some u) : w.cell? ((⟨g, 0, none⟩ : Addr).add j) = some u := by
  obtain ⟨_, ⟨hv, _⟩ | ⟨g', cap', cur, hv, hb, hg, hn, hm, hs, ht⟩⟩ := h
  · cases hv
  · simp only [Value.slice.injEq, Option.some.injEq, Addr.mk.injEq] at hv
    obtain ⟨⟨rfl, _⟩, _, rfl⟩ := hv
    have hc : cur.toList[j]? = some u := by
      have h1 : (cur.toList.take (ds.length * 1))[j]? = some u := by rw [ht]; exact hj
      rw [List.getElem?_take] at h1
      split at h1
      · exact h1
      · cases h1
    have e : ((⟨g, 0, none⟩ : Addr).add j) = ⟨g, j, none⟩ := by
      by_cases h : j = 0 <;> simp [Addr.add, h]
    rw [e]
    simpa [World.cell?, hg] using hc
theorem own_form {w : World} {B e n : Nat} {v : Value} {xs : List Value} (h : w.ownsRow B e 1 v (n + 1) xs) : ∃ g cap, v = .slice (some ⟨g, 0, none⟩) (n + 1) cap := by
  obtain ⟨_, ⟨hv, hn⟩ | ⟨g', cap', cur, hv, _⟩⟩ := h
  · omega
  · exact ⟨_, _, hv⟩
theorem tmod_neg {K : Int} (h : K < 0) : K.tmod 10 = -((K.natAbs % 10 : Nat) : Int) := by
  obtain ⟨m, rfl⟩ : ∃ m : Nat, K = -(m : Int) := ⟨K.natAbs, by omega⟩
  rw [Int.neg_tmod, Int.natAbs_neg, Int.natAbs_natCast]
  rfl
theorem tdiv_neg {K : Int} (h : K < 0) : K.tdiv 10 = -((K.natAbs / 10 : Nat) : Int) := by
  obtain ⟨m, rfl⟩ : ∃ m : Nat, K = -(m : Int) := ⟨K.natAbs, by omega⟩
  rw [Int.neg_tdiv, Int.natAbs_neg, Int.natAbs_natCast]
  rfl
theorem ofNat_digit (r : Nat) : ((UInt8.ofNat (48 + r % 10)).toNat : Int) = 48 + ((r % 10 : Nat) : Int) := by
  rw [UInt8.toNat_ofNat']
  omega
theorem dec_close {w wr w1 : World} {n K K' X : Int} {ds : List UInt8} {v' : Value} {row : Option Nat} (hlen : ds.length ≤ 19) (hD : DecR n K ds) (hK : K ≠ 0) (hB : Below w.heap.size w wr)
    (hown : w1.ownsRow w.heap.size 5 1 v' (1 + ds.length) ([.int .u8 X] ++ bv ds)) (hg : (wr.alloc (.cells #[.int .u8 X] 5)).grownBy w1 row) (hr : row = some wr.heap.size)
    (hX : X = 48 + ((K.natAbs % 10 : Nat) : Int)) (hk : K'.natAbs = K.natAbs / 10) (hp : 0 < K' → 0 < K) (hm : K' < 0 → K < 0) :
    (∃ K1 ds1 g cap, Value.int .i64 K' = .int .i64 K1 ∧ v' = .slice (some ⟨g, 0, none⟩) (List.length ds1) cap ∧ w1.ownsRow w.heap.size 5 1 v' ds1.length (bv ds1) ∧ Below w.heap.size w w1 ∧ DecR n K1 ds1 ∧ List.length ds1 ≤ 20) ∧
    (intOf (.int .i64 K')).natAbs < (intOf (.int .i64 K)).natAbs := by
  refine ⟨?_, by simp [intOf]; omega⟩
  have hl : 1 + ds.length = (UInt8.ofNat (48 + K.natAbs % 10) :: ds).length := by rw [List.length_cons]; omega
  have hb : [Value.int .u8 X] ++ bv ds = bv (UInt8.ofNat (48 + K.natAbs % 10) :: ds) := by
    unfold bv
    rw [List.map_cons, ofNat_digit, hX]
    rfl
  rw [hl, hb] at hown
  obtain ⟨g, cap, hv⟩ := own_form (n := ds.length) hown
  refine ⟨K', UInt8.ofNat (48 + K.natAbs % 10) :: ds, g, cap, rfl, hv, hown, ?_, dec_step hD hK hk hp hm, by rw [List.length_cons]; omega⟩
  exact (hB.alloc hB.size _).grown hg (by have := hB.size; simp; omega) (fun k e => by rw [hr] at e; cases e; exact hB.size)
theorem cat45 (ds : List UInt8) : (({ data := #[45] } : ByteArray) ++ { data := ds.toArray }) = { data := (45 :: ds).toArray } := by
  apply ByteArray.ext
  simp
theorem info5 : (Tryd.prog.info? 5).map (fun i => (i.zero, i.size, i.bytes)) = some (some (.int .u8 0), 1, 1) := by kernel_rfl

set_option maxHeartbeats 4000000 in
set_option maxRecDepth 100000 in
theorem dec_any (n : Int) (hn : I64 n) (w : World) :
    Calls Tryd.prog 22 #[.int .i64 n] w fun e w' => e = .returned (.string ⟨(Lib.itoa n).toArray⟩) ∧ Below w.heap.size w w' := by
  obtain ⟨i0, hi, hz0, hz1, hz2⟩ := info_parts info5
  unfold I64 at hn
  have hna : n.natAbs ≤ 9223372036854775808 := by omega
  go_enter Tryd.func22, Tryd.ntmps22
  go_wp2
  go_loopw [3, 4] (fun v k wr => ∃ (K : Int) (ds : List UInt8) (g cap : Nat), k = .int .i64 K ∧ v = .slice (some ⟨g, 0, none⟩) ds.length cap ∧ wr.ownsRow w.heap.size 5 1 v ds.length (bv ds) ∧ Below w.heap.size w wr ∧ DecR n K ds ∧ ds.length ≤ 20) (fun _ k _ => (intOf k).natAbs)
  case atStart => exact ⟨n, [], w.heap.size, 0, rfl, rfl, World.ownsRow_made w #[] 0 (Nat.le_refl _) (by decide) rfl, (Below.refl _ _).alloc (Nat.le_refl _) _, dec_start n, by decide⟩
  case round =>
    obtain ⟨K, ds, g, cap, rfl, rfl, hown, hbl, hd, hl20⟩ := hrel
    have hKb := dec_bound hd
    have HO := Lib.hid hown
    have HD := Lib.hid hd
    have HB := Lib.hid hbl
    have hsz := hbl.size
    by_cases h0 : K = 0
    · subst h0
      have hcv := run_convert_bytes_back (P := Tryd.prog) wr 43 9 5 ⟨g, 0, none⟩ cap ds Tryd.underlying43 Tryd.underlying5 Tryd.underlying9 (fun j hj => own_cells hown j _ (by simp [bv, List.getElem?_eq_getElem hj]))
      clear hown hbl hKb
      rcases dec_end hd with ⟨rfl, rfl⟩ | ⟨hp, he, hne⟩ | ⟨hp, he, hne⟩
      · clear hd hcv
        go_wp2
        go_ret
        exact ⟨by simp [Lib.itoa, Lib.decDigits], HB.out⟩
      · have hl : ((ds.length : Int) == 0) = false := by simp; exact hne
        have He := Lib.hid he
        clear hd he
        go_wp2
        go_ret
        exact ⟨by rw [← He.out]; rfl, HB.out⟩
      · have hl : ((ds.length : Int) == 0) = false := by simp; exact hne
        have He := Lib.hid he
        clear hd he
        go_wp2
        go_ret
        exact ⟨by rw [← He.out]; exact congrArg (fun x => Ending.returned (Value.string x)) (cat45 ds), HB.out⟩
    · have hlen := dec_len hd h0 hna
      have hp1 := hd.2.1
      clear hown hd hbl
      by_cases hpos : 0 < K
      · have hle : K ≤ 9223372036854775807 := by
          have := hp1 hpos
          omega
        clear hp1
        have hne : (K != 0) = true := by simp; omega
        go_wp2_with (at_builtin; refine wpList_append_own _ rfl _ _ 43 rfl w.heap.size 5 i0 (.int .u8 0) 1 1 Tryd.underlying43 hi hz0 hz1 hz2 rfl (by decide) _ 1 _ rfl (own1 wr w.heap.size _ hsz) ⟨g, 0, none⟩ ds.length cap (bv ds) rfl (by simp [bv]) (own_cells (HO.out.alloc _)) (by simp [bv, Value.oneCell']) (by unfold maxLen; omega) (by omega) (by simp; omega) ?_; intro v' w1 hown1 hgrow1 hnil1)
        exact dec_close hlen HD.out h0 HB.out hown1 hgrow1 rfl (by omega) (by omega) (by omega) (by omega)
      · have hneg : K < 0 := by omega
        have hle : -9223372036854775808 ≤ K := by omega
        clear hp1
        have hne : (K != 0) = true := by simp; omega
        have et := Lib.hid (tmod_neg hneg)
        have ed := Lib.hid (tdiv_neg hneg)
        go_wp2_with (at_builtin; refine wpList_append_own _ rfl _ _ 43 rfl w.heap.size 5 i0 (.int .u8 0) 1 1 Tryd.underlying43 hi hz0 hz1 hz2 rfl (by decide) _ 1 _ rfl (own1 wr w.heap.size _ hsz) ⟨g, 0, none⟩ ds.length cap (bv ds) rfl (by simp [bv]) (own_cells (HO.out.alloc _)) (by simp [bv, Value.oneCell']) (by unfold maxLen; omega) (by omega) (by simp; omega) ?_; intro v' w1 hown1 hgrow1 hnil1)
        · exact dec_close hlen HD.out h0 HB.out hown1 hgrow1 rfl (by rw [et.out]; unfold wrap64; omega) (by rw [ed.out]; omega) (by rw [ed.out]; omega) (by rw [ed.out]; omega)
        · have h9 : 0 ≤ K.tmod 10 := by assumption
          exact dec_close hlen HD.out h0 HB.out hown1 hgrow1 rfl (by rw [et.out] at h9 ⊢; unfold wrap64; omega) (by rw [ed.out]; omega) (by rw [ed.out]; omega) (by rw [ed.out]; omega)

end Go.Proofs.YtmoilphgibigkaaDoor
