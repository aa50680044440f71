/- The program's list with another end; the last number that is not zero. No conditions. -/
import Derived.Test.YtcgckpnkmmjljaaUn
import Derived.Lib.AppendZerosOnto
import Derived.Laws.CopyOwn
import Derived.WalkSpells
namespace Go.Proofs.Ytcgckpnkmmjljaa
open Go.Joins Go.ChangeShapes Go.WideShapes Go.ChangeAt Go.RowKit Go.Deep
set_option linter.unusedVariables false

/-- A block that holds these numbers, and zeros behind them. -/
theorem arr_of {w : World} {G : Nat} {L : List Int} {cur : List Value} {t : TypeId} (h : w.heap[G]? = some (.cells cur.toArray t (0, 0))) (hc : ∃ rest, cur = nvs L ++ rest) : Arr w G L := by
  obtain ⟨rest, rfl⟩ := hc
  refine ⟨(Array.getElem?_eq_some_iff.1 h).1, fun i x hi => ?_, fun o => by simp [World.frozen?, h]⟩
  have hl : i < L.length := (List.getElem?_eq_some_iff.1 hi).1
  have e : (nvs L ++ rest)[i]? = some (.int .i64 x) := by
    rw [List.getElem?_append_left (by rw [nvs_len]; exact hl)]
    simp [nvs, hi]
  simpa [World.cell?, h] using e
theorem zeroC (n : Nat) : Builtin.zeroCells #[Value.int .i64 0] n = (List.replicate n (Value.int .i64 0)).toArray := by
  apply Array.ext
  · rw [size_zeroCells]; simp
  · intro i h1 h2
    simp [Builtin.zeroCells, Nat.mod_one]
theorem infoO : (Try.prog.info? 2).map (·.size) = some 1 := by kernel_rfl
def WeP (L : List Int) (n : Nat) (w : World) (e : Ending) (w' : World) : Prop :=
  ∃ G c, e = .returned (.slice (some ⟨G, 0, none⟩) n c) ∧ Arr w' G L ∧ w.heap.size ≤ G ∧ n ≤ c ∧ Below w.heap.size w w'
set_option maxHeartbeats 2000000 in
theorem withEnd_any (g o n c at_ m g2 o2 c2 : Nat) (xs es : List Int) (w : World) (hn : xs.length = n) (hm : es.length = m) (h : RowN w (some ⟨g, o, none⟩) xs) (h2 : RowN w (some ⟨g2, o2, none⟩) es) (hc : n ≤ c) (hn16 : n ≤ 1000) (ha : at_ < n) (hm1 : 0 < m) (hm2 : at_ + m ≤ n) :
    Calls Try.prog 46 #[.slice (some ⟨g, o, none⟩) n c, .int .i64 at_, .slice (some ⟨g2, o2, none⟩) m c2] w (WeP (xs.take at_ ++ (es ++ List.replicate (n - (at_ + m)) 0)) n w) := by
  obtain ⟨i0, hi, hz0, hz1, hz2⟩ := info_parts infoN
  obtain ⟨k, hk⟩ : ∃ k, n = at_ + k := ⟨n - at_, by omega⟩
  have hne : xs ≠ [] := by intro e; subst e; simp at hn; omega
  obtain ⟨g', o', e', hg, hx⟩ := h.2.resolve_left hne
  cases e'
  have holds : ∀ j v, (nvs (xs.take at_))[j]? = some v → (w.drew).cell? ((⟨g, o, none⟩ : Addr).add j) = some v := by
    intro j u hu
    have e : ((⟨g, o, none⟩ : Addr).add j) = ⟨g, o + j, none⟩ := by
      by_cases h : j = 0 <;> simp [Addr.add, h]
    rw [e]
    unfold nvs at hu
    rw [List.getElem?_map] at hu
    cases hx' : (xs.take at_)[j]? with
    | none => rw [hx'] at hu; cases hu
    | some x =>
      rw [hx'] at hu
      cases hu
      rw [List.getElem?_take] at hx'
      split at hx'
      · exact hx j x hx'
      · cases hx'
  have hfit : Builtin.nextslicecap (at_ + k) at_ * i0.bytes ≤ 281474976710656 := by rw [hz2]; exact growslice_fits (by omega) (by omega)
  have hlt : (xs.take at_).length = at_ := by rw [List.length_take]; omega
  have hr : ∀ ty, (Builtin.append_ #[24, 3] ty #[.slice (some ⟨g, o, none⟩) at_ at_, .int .i64 k]).run Try.prog w = _ := fun ty =>
    Lib.run_append_grow_zeros (P := Try.prog) w 24 3 ty 2 i0 (.int .i64 0) .i64 .i64 Try.underlying24 Try.underlying3 hi hz0 (some ⟨g, o, none⟩) at_ at_ (nvs (xs.take at_)) (run_firstCells_some w.drew i0.size at_ ⟨g, o, none⟩ at_ at_ (nvs (xs.take at_)) (by rw [nvs_len, hz1, hlt]; omega) holds) k (by omega) (by omega) (by omega) (by omega) (by rw [hz2]; omega) hfit
  obtain ⟨C, hC⟩ : ∃ C, grownCap w (at_ + k) at_ 2 = C := ⟨_, rfl⟩
  have hCn : at_ + k ≤ C := by rw [← hC]; exact grownCap_ge w _ _ _
  have hCm : C ≤ maxLen := by rw [← hC]; exact grownCap_le_maxLen w (at_ + k) at_ 2 (by unfold maxLen; omega)
  rw [hC] at hr
  have hC63 : C ≤ 9223372036854775807 := by unfold maxLen at hCm; omega
  have ek : (k : Int) = (n : Int) - (at_ : Int) := by omega
  rw [ek] at hr
  have q0 : (0 : Int) ≤ (at_ : Int) := by omega
  have q1 : (at_ : Int) ≤ (c : Int) := by omega
  have q2 : (at_ : Int) < (n : Int) := by omega
  have H2 := Lib.hid h2
  have HM := Lib.hid hm
  have HN := Lib.hid (And.intro hn hk)
  have HL := Lib.hid hlt
  clear hC hfit hx holds h h2 hne hm hn hk hlt
  have hG : (w.drew.alloc (.cells ((nvs (xs.take at_)).toArray ++ Builtin.zeroCells (Value.int IntKind.i64 0).cells k ++ Builtin.zeroCells (Value.int IntKind.i64 0).cells (C - (at_ + k))) 2)).heap[w.heap.size]? = some (.cells (nvs (xs.take at_) ++ (List.replicate k (Value.int .i64 0) ++ List.replicate (C - (at_ + k)) (Value.int .i64 0))).toArray 2 (0, 0)) := by
    have e : ((nvs (xs.take at_)).toArray ++ Builtin.zeroCells (Value.int IntKind.i64 0).cells k ++ Builtin.zeroCells (Value.int IntKind.i64 0).cells (C - (at_ + k))) = (nvs (xs.take at_) ++ (List.replicate k (Value.int .i64 0) ++ List.replicate (C - (at_ + k)) (Value.int .i64 0))).toArray := by
      show ((nvs (xs.take at_)).toArray ++ Builtin.zeroCells #[Value.int .i64 0] k ++ Builtin.zeroCells #[Value.int .i64 0] (C - (at_ + k))) = _
      rw [zeroC, zeroC]
      simp
    rw [e]
    exact heap_alloc_new w.drew _
  have hBd : Below w.heap.size w (w.drew.alloc (.cells ((nvs (xs.take at_)).toArray ++ Builtin.zeroCells (Value.int IntKind.i64 0).cells k ++ Builtin.zeroCells (Value.int IntKind.i64 0).cells (C - (at_ + k))) 2)) := (Below.refl w.heap.size w).drew.alloc (Nat.le_refl _) _
  obtain ⟨w2, hw2⟩ : ∃ w2, (w.drew.alloc (.cells ((nvs (xs.take at_)).toArray ++ Builtin.zeroCells (Value.int IntKind.i64 0).cells k ++ Builtin.zeroCells (Value.int IntKind.i64 0).cells (C - (at_ + k))) 2)) = w2 := ⟨_, rfl⟩
  rw [hw2] at hG hBd
  have hr2 : ∀ ty, (Builtin.append_ #[24, 3] ty #[.slice (some ⟨g, o, none⟩) at_ at_, .int .i64 ((n : Int) - (at_ : Int))]).run Try.prog w = .ok (.slice (some ⟨w.heap.size, 0, none⟩) (at_ + k) C) w2 := fun ty => by rw [← hw2]; exact hr ty
  have HX2 : Hid (∀ j v, (nvs es)[j]? = some v → w2.cell? ((⟨g2, o2, none⟩ : Addr).add j) = some v) := Lib.hid (fun j v hv => row_news (H2.out.below hBd) j v hv)
  have HG := Lib.hid hG
  have HB := Lib.hid hBd
  have HI := Lib.hid infoO
  clear hBd hG hw2 hr
  go_enter Try.func46, Try.ntmps46
  go_wp2_with (first | (at_builtin; refine Lib.wpList_append_run _ rfl _ _ _ _ rfl _ _ rfl rfl _ _ (hr2 _) ?_) | ((with_reducible show wpList _ _ _ ((⟨some 21, _, _, _, _, _⟩ : Oper) :: _) _ _); go_must (refine wpList_copy_splice rfl (.tmp 19) (.tmp 20) 24 24 rfl 2 Try.underlying24 HI.out _ _ _ _ _ _ rfl rfl w.heap.size at_ _ 2 HG.out (nvs es) (by rw [nvs_len, HM.out]; show m = min m k; have := HN.out.2; omega) (fun _ => ⟨rfl, ⟨g2, o2, none⟩, rfl, HX2.out⟩) (by rw [nvs_len, List.length_append, nvs_len, HL.out, HM.out, List.length_append, List.length_replicate]; have := HN.out.2; omega) (nvs_cell es) w.heap.size w HB.out (Nat.le_refl _) ?_); intro w4 hg4 hb4))
  go_ret
  refine ⟨w.heap.size, C, by rw [HN.out.2]; rfl, arr_of hg4.out ⟨List.replicate (C - (at_ + k)) (Value.int .i64 0), ?_⟩, Nat.le_refl _, by have := HN.out.2; omega, hb4⟩
  have hA := HL.out
  have hm := HM.out
  have hk := HN.out.2
  have hnl : (nvs (xs.take at_)).length = at_ := by rw [nvs_len, hA]
  unfold splice
  have e0 : (nvs (xs.take at_) ++ (List.replicate k (Value.int .i64 0) ++ List.replicate (C - (at_ + k)) (Value.int .i64 0))).drop (at_ + m) = List.replicate (k - m) (Value.int .i64 0) ++ List.replicate (C - (at_ + k)) (Value.int .i64 0) := by
    rw [List.drop_append, List.drop_eq_nil_of_le (by omega), List.nil_append, hnl, show at_ + m - at_ = m by omega, List.drop_append, List.drop_replicate, List.length_replicate, show m - k = 0 by omega, List.drop_zero]
  rw [List.take_left' hnl, nvs_len, hm, e0, nvs_app, nvs_app, show nvs (List.replicate (n - (at_ + m)) 0) = List.replicate (k - m) (Value.int .i64 0) by rw [show n - (at_ + m) = k - m by omega]; simp [nvs]]
  simp only [List.append_assoc]
set_option maxHeartbeats 1000000 in
theorem lastNz_some (a : Option Addr) (n c A : Nat) (x : Int) (xs : List Int) (w : World) (hn : xs.length = n) (h : RowN w a xs) (hx : xs[A]? = some x) (h0 : x ≠ 0) (hz : ∀ q, A < q → q < n → xs[q]? = some 0) :
    Calls Try.prog 45 #[.slice a n c] w fun e w' => e = .returned (.int .i64 (A : Int)) ∧ w = w' := by
  have hl : n ≤ 1000000000000 := by rw [← hn]; exact h.1
  have hAn : A < n := by rw [← hn]; exact (List.getElem?_eq_some_iff.1 hx).1
  have hne : xs ≠ [] := by intro e; subst e; cases hx
  obtain ⟨g, o, rfl, hg, hc⟩ := h.2.resolve_left hne
  have HC := Lib.hid hc
  have HX := Lib.hid hx
  have HZ := Lib.hid hz
  clear hc hx hz h hne hn
  go_enter Try.func45, Try.ntmps45
  go_wp2
  go_loopw [4] (fun i wr => ∃ j : Nat, A ≤ j ∧ j < n ∧ i = .int .i64 (j : Int) ∧ wr = w) (fun i _ => (intOf i).toNat)
  case atStart => exact ⟨n - 1, by omega, by omega, by go_num, rfl⟩
  case round =>
    obtain ⟨j, hj, hjn, rfl, rfl⟩ := hrel
    have q0 : (0 : Int) ≤ (j : Int) := by omega
    have q1 : (j : Int) < (n : Int) := by omega
    by_cases e : j = A
    · subst e
      have y := HC.out j x HX.out
      have hq : (x == 0) = false := by simpa using h0
      go_wp2
      go_ret
      exact ⟨rfl, rfl⟩
    · have y := HC.out j 0 (HZ.out j (by omega) hjn)
      go_wp2
      go_roundw
      case rel => exact ⟨j - 1, by omega, by omega, by go_num, trivial⟩
      case measure => simp [intOf]; omega
set_option maxHeartbeats 1000000 in
theorem lastNz_none (a : Option Addr) (n c : Nat) (xs : List Int) (w : World) (hn : xs.length = n) (h : RowN w a xs) (hz : ∀ q, q < n → xs[q]? = some 0) :
    Calls Try.prog 45 #[.slice a n c] w fun e w' => e = .returned (.int .i64 (-1)) ∧ w = w' := by
  have hl : n ≤ 1000000000000 := by rw [← hn]; exact h.1
  have H := Lib.hid h
  have HZ := Lib.hid hz
  have HN := Lib.hid hn
  clear hz h hn
  go_enter Try.func45, Try.ntmps45
  go_wp2
  go_loopw [4] (fun i wr => ∃ j : Nat, j ≤ n ∧ i = .int .i64 ((j : Int) - 1) ∧ wr = w) (fun i _ => (intOf i + 1).toNat)
  case atStart => exact ⟨n, Nat.le_refl _, by go_num, rfl⟩
  case round =>
    obtain ⟨j, hjn, rfl, rfl⟩ := hrel
    rcases j with _ | j
    · have q0 : ¬ ((0 : Int) ≤ ((0 : Nat) : Int) - 1) := by omega
      go_wp2
      go_ret
      exact ⟨rfl, rfl⟩
    · rw [show (((j + 1 : Nat) : Int) - 1) = (j : Int) by omega]
      have q0 : (0 : Int) ≤ (j : Int) := by omega
      have q1 : (j : Int) < (n : Int) := by omega
      obtain ⟨g, o, rfl, hg, hc⟩ := H.out.2.resolve_left (by intro e; have := HN.out; subst e; simp at this; omega)
      have y := hc j 0 (HZ.out j (by omega))
      clear hc
      go_wp2
      go_roundw
      case rel => exact ⟨j, by omega, by go_num, trivial⟩
      case measure => simp [intOf]
end Go.Proofs.Ytcgckpnkmmjljaa
