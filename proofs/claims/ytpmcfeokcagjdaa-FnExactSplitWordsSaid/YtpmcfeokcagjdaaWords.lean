/- SplitWords of the reference and of the program return the same words in memory of their own, and so the law on it holds. No conditions. -/
import Derived.Test.YtpmcfeokcagjdaaMark
import Derived.Test.YtpmcfeokcagjdaaWordsR
import Derived.Test.YtpmcfeokcagjdaaShelf
namespace Go.Proofs.Ytpmcfeokcagjdaa
open Go.Joins Go.ChangeShapes Go.WideShapes Go.ChangeAt Go.RowKit Go.Deep Go.Shelf
open Go.ChangeMaps (open_string shut_string)
set_option linter.unusedVariables false

theorem lists_inj {xs ys : List ByteArray} (h : lists xs = lists ys) : xs = ys := by
  induction xs generalizing ys with
  | nil =>
    cases ys with
    | nil => rfl
    | cons y r => cases h
  | cons x r ih =>
    cases ys with
    | nil => cases h
    | cons y q =>
      obtain ⟨h1, h2⟩ := List.cons.inj h
      rw [ih h2]
      congr 1
      cases x; cases y
      congr 1
      exact Array.toList_inj.1 h1
/-- An owned row of texts, as the laws' functions want it. -/
theorem row_of_own {w : World} {B g cap : Nat} {xs : List ByteArray} (h : w.ownsRow B 9 1 (.slice (some ⟨g, 0, none⟩) xs.length cap) xs.length (sv xs)) (hn : xs.length ≤ 1000000000000) :
    RowS w (some ⟨g, 0, none⟩) xs ∧ (∀ o, w.frozen? ⟨g, o, none⟩ = false) ∧ g < w.heap.size ∧ B ≤ g := by
  obtain ⟨_, ⟨hv, _⟩ | ⟨g', cap', cur, hv, hb, hg, hm, hc, hs, ht⟩⟩ := h
  · cases hv
  · simp only [Value.slice.injEq, Option.some.injEq, Addr.mk.injEq] at hv
    obtain ⟨⟨rfl, _⟩, _, rfl⟩ := hv
    have hlt : g < w.heap.size := (Array.getElem?_eq_some_iff.1 hg).1
    refine ⟨⟨hn, .inr ⟨g, 0, rfl, hlt, fun i s hi => ?_⟩⟩, fun o => ?_, hlt, hb⟩
    · have h1 : (cur.toList.take (xs.length * 1))[i]? = some (.string s) := by
        rw [ht]
        simp [sv, hi]
      rw [List.getElem?_take] at h1
      split at h1
      · rw [Nat.zero_add]
        simpa [World.cell?, hg] using h1
      · cases h1
    · simp [World.frozen?, hg]

/-- A new slice of the words of s. -/
def WordsP (s : ByteArray) (xs : List ByteArray) (w : World) (e : Ending) (w' : World) : Prop :=
  ∃ g cap, e = .returned (.slice (some ⟨g, 0, none⟩) (List.length xs) cap) ∧ w.heap.size ≤ g ∧ g < w'.heap.size ∧ RowS w' (some ⟨g, 0, none⟩) xs ∧ (∀ o, w'.frozen? ⟨g, o, none⟩ = false) ∧ Below w.heap.size w w'

theorem blank_pays (w : World) : Go.Proofs.PredAt Try.prog 51 #[] encR blank w := fun W r _ => by
  unfold FnGives
  by_cases h : r = 32
  · subst h
    go_enter Try.func51, Try.ntmps51
    go_wp2
    go_ret
    exact ⟨rfl, 0, rfl⟩
  · have h1 : ((r : Int) == 32) = false := by simp; omega
    have h2 : blank r = false := by simp [blank, h]
    have H2 := Lib.hid h2
    clear h h2
    go_enter Try.func51, Try.ntmps51
    go_wp2
    go_ret
    exact ⟨by rw [H2.out]; rfl, 0, rfl⟩

theorem impl_words (s : ByteArray) (hs : s.size ≤ 1048576) (xs : List ByteArray) (hx : lists xs = words s.data.toList) (hn : xs.length ≤ 1000000000000) (w : World) :
    Calls Try.prog 23 #[.string s] w (WordsP s xs w) := by
  have e : Lib.goFieldsP blank s = xs := lists_inj ((fields_words s).trans hx.symm)
  have H := Lib.hid e
  clear e hx
  go_enter Try.func23, Try.ntmps23
  go_wp2_with fail
  refine (Try.strings_FieldsFunc 51 #[] (enters_of Try.func51 (by kernel_rfl) rfl) blank s _ (by omega) (blank_pays _)).mono ?_
  rintro e w1 ⟨A, rfl, hA, hown, hb⟩
  rw [H.out] at hown ⊢
  obtain ⟨hr, hf, hlt, _⟩ := row_of_own hown hn
  have HR := Lib.hid hr
  have HF := Lib.hid hf
  clear hown hr hf
  go_wp2_with fail
  go_ret
  exact ⟨A, _, rfl, hA, hlt, HR.out, HF.out, hb⟩

theorem split_len (c : UInt8) : ∀ (l cur : List UInt8), (splitL c l cur).length ≤ l.length + 1
  | [], cur => by simp [splitL]
  | b :: r, cur => by
    unfold splitL
    split
    · have := split_len c r []
      simp
      omega
    · have := split_len c r (cur ++ [b])
      simp
      omega
def full (p : ByteArray) : Bool := !p.data.toList.isEmpty
theorem lists_filter (ps : List ByteArray) : lists (ps.filter full) = (lists ps).filter fun x => !x.isEmpty := by
  unfold lists
  rw [List.filter_map]
  rfl
theorem own_at {w : World} {B g cap : Nat} {ps : List ByteArray} (h : w.ownsRow B 9 1 (.slice (some ⟨g, 0, none⟩) ps.length cap) ps.length (sv ps)) {i : Nat} {p : ByteArray} (hp : ps[i]? = some p) (hn : ps.length ≤ 1000000000000) : w.cell? ⟨g, i, none⟩ = some (.string p) := by
  obtain ⟨⟨_, h0 | ⟨g', o, hv, _, hx⟩⟩, _⟩ := row_of_own h hn
  · subst h0; cases hp
  · cases hv
    have := hx i p hp
    rwa [Nat.zero_add] at this
theorem take_keep {ps : List ByteArray} {k : Nat} {p : ByteArray} (hp : ps[k]? = some p) (hf : full p = true) : (ps.take (k + 1)).filter full = (ps.take k).filter full ++ [p] := by
  rw [List.take_add_one, hp]
  simp [hf]
theorem take_drop {ps : List ByteArray} {k : Nat} {p : ByteArray} (hp : ps[k]? = some p) (hf : full p = false) : (ps.take (k + 1)).filter full = (ps.take k).filter full := by
  rw [List.take_add_one, hp]
  simp [hf]

set_option maxHeartbeats 4000000 in
theorem spec_words (s : ByteArray) (hs : s.size ≤ 1048576) (xs : List ByteArray) (hx : lists xs = words s.data.toList) (hn : xs.length ≤ 1000000000000) (w : World) :
    Calls Try.prog 22 #[.string s] w (WordsP s xs w) := by
  obtain ⟨i0, hi, hz0, hz1, hz2⟩ := info_parts info9
  have Hx := Lib.hid hx
  clear hx
  go_enter Try.func22, Try.ntmps22
  go_wp2_with fail
  refine (split_any s (by omega) 32 _).mono ?_
  rintro e w1 ⟨g, cap, ps, rfl, hown, hb1, hps, hpl⟩
  have hpl2 : ps.length ≤ 1048577 := by omega
  have hxs : xs = ps.filter full := lists_inj (by rw [Hx.out, lists_filter, hps]; rfl)
  have hg1 := (row_of_own hown (by omega)).2.2.1
  have HO := Lib.hid hown
  have HX := Lib.hid hxs
  clear hown hps hpl hxs
  go_wp2_with fail
  obtain ⟨n, hnn⟩ : ∃ n, ps.length = n := ⟨_, rfl⟩
  have Hnn := Lib.hid hnn
  rw [hnn]
  rw [hnn] at hpl2
  clear hnn
  go_loopw [4, 5] (fun v i wr => ∃ (k : Nat) (os : List ByteArray) (g' cap' : Nat), k ≤ n ∧ i = .int .i64 k ∧ v = .slice (some ⟨g', 0, none⟩) os.length cap' ∧ wr.ownsRow w1.heap.size 9 1 v os.length (sv os) ∧ Below w1.heap.size w1 wr ∧ os = (ps.take k).filter full ∧ os.length ≤ k) (fun _ i _ => n - (intOf i).toNat)
  case atStart => exact ⟨0, [], w1.heap.size, 0, Nat.zero_le _, rfl, rfl, World.ownsRow_made w1 #[] 0 (Nat.le_refl _) (by decide) rfl, (Below.refl _ _).alloc (Nat.le_refl _) _, rfl, by decide⟩
  case round =>
    obtain ⟨k, os, g', cap', hk, rfl, rfl, ho, hbl, hos, hol⟩ := hrel
    have HO2 := Lib.hid ho
    have HB := Lib.hid hbl
    have HE := Lib.hid hos
    have hsz := hbl.size
    have hgB := ho.lt g' rfl
    have hg2 : g < wr.heap.size := Nat.lt_of_lt_of_le hg1 hsz
    clear ho hbl hos
    by_cases hlt : k < n
    · obtain ⟨p, hp⟩ : ∃ p, ps[k]? = some p := ⟨ps[k]'(by rw [Hnn.out]; exact hlt), List.getElem?_eq_getElem _⟩
      have y : wr.cell? ⟨g, k, none⟩ = some (.string p) := by
        rw [HB.out.cell (p := ⟨g, k, none⟩) hg1]
        exact own_at HO.out hp (by rw [Hnn.out]; omega)
      have HP := Lib.hid hp
      clear hp
      have q0 : (0 : Int) ≤ (k : Int) := by omega
      have q1 : (k : Int) < (n : Int) := by omega
      by_cases hz : p.data.toList = []
      · obtain rfl : p = ⟨#[]⟩ := lists_inj (xs := [p]) (ys := [⟨#[]⟩]) (by simp [lists, hz]) |> fun h => (List.cons.inj h).1
        clear hz
        go_wp2
        go_roundw
        case rel => exact ⟨k + 1, os, g', cap', by omega, by go_num, rfl, HO2.out, HB.out, by rw [HE.out]; exact (take_drop HP.out rfl).symm, by omega⟩
        case measure => simp [intOf]; omega
      · have hne : p.toList.isEmpty = false := by
          rw [List.isEmpty_eq_false_iff, ByteArray.toList_eq]
          exact hz
        have hfull : full p = true := by
          unfold full
          rw [ByteArray.toList_eq] at hne
          rw [hne]
          rfl
        have HF := Lib.hid hfull
        clear hz hfull
        go_wp2_with (at_builtin; refine wpList_append_own _ rfl _ _ 32 rfl w1.heap.size 9 i0 (.string ⟨#[]⟩) 1 16 Try.underlying32 hi hz0 hz1 hz2 rfl (by decide) _ os.length (sv os) rfl (HO2.out.alloc _) ⟨wr.heap.size, 0, none⟩ 1 1 [.string p] rfl rfl (fun j' u hu => by match j', hu with | 0, hu => (cases hu; simp [Addr.add])) (by simp [Value.oneCell']) (by unfold maxLen; omega) (by omega) (by simp; omega) ?_; intro v' w2 hown1 hgrow1 hnil1)
        obtain ⟨g2, cap2, hv, ho, hb⟩ := split_close HB.out hown1 hgrow1 (fun q hq => by cases hq; exact hgB.1)
        go_roundw
        case rel => exact ⟨k + 1, os ++ [p], g2, cap2, by omega, by go_num, hv, ho, hb, by rw [HE.out]; exact (take_keep HP.out HF.out).symm, by rw [List.length_append]; simp; omega⟩
        case measure => simp [intOf]; omega
    · obtain rfl : k = n := by omega
      have hos : os = xs := by
        rw [HX.out, HE.out, List.take_of_length_le (by rw [Hnn.out]; exact Nat.le_refl _)]
      subst hos
      obtain ⟨hr, hf, hl, hge⟩ := row_of_own HO2.out hn
      have hb1s := hb1.size
      go_wp2
      go_ret
      exact ⟨g', cap', rfl, by omega, hl, hr, hf, hb1.trans (HB.out.mono hb1s)⟩

theorem words_exist (l : List UInt8) : ∃ xs : List ByteArray, lists xs = words l := ⟨(words l).map fun x => ⟨x.toArray⟩, by
  unfold lists
  rw [List.map_map]
  conv => rhs; rw [← List.map_id (words l)]
  rfl⟩
set_option maxHeartbeats 4000000 in
theorem walk_FnExactSplitWords (s : ByteArray) (hs : s.size ≤ maxLen) (w : World) :
    Calls Try.prog 5 #[.string s] w fun e w' => e = .returned (.bool true) ∧ Below w.heap.size w w' := by
  unfold maxLen at hs
  by_cases hl : 1048576 < s.size
  · go_enter Try.func5, Try.ntmps5
    go_wp2
    go_ret
    exact ⟨rfl, Below.refl _ _⟩
  · have hsz : s.size ≤ 1048576 := by omega
    obtain ⟨xs, hx⟩ := words_exist s.data.toList
    have hn : xs.length ≤ 1000000000 := by
      have h1 : xs.length = (words s.data.toList).length := by rw [← hx]; simp [lists]
      have h2 : (words s.data.toList).length ≤ (splitL 32 s.data.toList []).length := List.length_filter_le _ _
      have h3 := split_len 32 s.data.toList []
      have h4 : s.data.toList.length = s.size := by simp only [Array.length_toList]; rfl
      omega
    have Hx := Lib.hid hx
    clear hx hs
    obtain ⟨n, hnn⟩ : ∃ n, xs.length = n := ⟨_, rfl⟩
    have Hnn := Lib.hid hnn
    rw [hnn] at hn
    clear hnn
    go_enter Try.func5, Try.ntmps5
    go_wp2_with fail
    refine (spec_words s hsz xs Hx.out (by rw [Hnn.out]; omega) _).mono ?_
    rintro e w1 ⟨ga, ca, rfl, a1, l1, r1, -, b1⟩
    rw [Hnn.out]
    go_wp2_with fail
    refine (impl_words s hsz xs Hx.out (by rw [Hnn.out]; omega) _).mono ?_
    rintro e w2 ⟨gb, cb, rfl, a2, l2, r2, f2, b2⟩
    rw [Hnn.out]
    have B2 : Below w.heap.size w w2 := b1.trans (b2.mono (by omega))
    have R1 := Lib.hid (r1.below b2)
    have R2 := Lib.hid r2
    have F2 := Lib.hid f2
    clear r1 r2 f2
    go_wp2_with fail
    refine (eq_same _ _ _ _ n xs _ Hnn.out R2.out R1.out).mono ?_
    rintro e w3 ⟨rfl, b3⟩
    have B3 : Below w.heap.size w w3 := B2.trans (b3.mono (by omega))
    have l3 := b3.size
    go_wp2_with fail
    refine (marks_any gb _ cb n 1 xs _ Hnn.out (R2.out.below b3) (fun g o h => by cases h; rfl) (fun o => by rw [b3.frozen (p := ⟨gb, o, none⟩) l2]; exact F2.out o) (by decide) (by decide)).mono ?_
    rintro e w4 ⟨rfl, b4, r4⟩
    have l4 := b4.size
    have B4 : Below w.heap.size w w4 := But.below B3 b4 (by omega) (by omega)
    have R4 := Lib.hid r4
    have R14 := Lib.hid ((R1.out.below b3).but b4 (fun g o h => by cases h; omega))
    clear r4
    go_wp2_with fail
    refine (held_any _ cb n 1 _ R4.out (by decide) (by decide)).mono ?_
    rintro e w5 ⟨rfl, b5⟩
    have l5 := b5.size
    have B5 : Below w.heap.size w w5 := B4.trans (b5.mono (by omega))
    have hneg : ¬ ((1 + n : Nat) : Int) < 0 := by omega
    go_wp2_with fail
    refine (impl_words s hsz xs Hx.out (by rw [Hnn.out]; omega) _).mono ?_
    rintro e w6 ⟨gc, cc, rfl, a6, l6, r6, -, b6⟩
    rw [Hnn.out]
    have B6 : Below w.heap.size w w6 := B5.trans (b6.mono (by omega))
    have R6 := Lib.hid r6
    clear r6
    go_wp2_with fail
    refine (eq_same _ _ _ _ n xs _ Hnn.out R6.out ((R14.out.below b5).below b6)).mono ?_
    rintro e w7 ⟨rfl, b7⟩
    have l7 := b7.size
    have B7 : Below w.heap.size w w7 := B6.trans (b7.mono (by omega))
    go_wp2_with fail
    refine (held_any _ cb n 1 _ (((R4.out.below b5).below b6).below b7) (by decide) (by decide)).mono ?_
    rintro e w8 ⟨rfl, b8⟩
    have B8 : Below w.heap.size w w8 := B7.trans (b8.mono (by omega))
    go_wp2_with fail
    go_ret
    exact ⟨rfl, B8⟩
namespace fnExactSplitWords
set_option maxRecDepth 100000 in
theorem lifted (os : Os) (started : os.Started) (H : Type) (enc : TypeId × Value → H) :
    ReturnsInHanded {} Try.checked os 5 .any (Rows.fnExactSplitWordsSpec.pre6 enc Try.prog Try.f5 Rows.fnExactSplitWordsRow.domain false) (Rows.fnExactSplitWordsSpec.post enc Try.prog Try.f5 false true false false) := by
  refine returnsInHanded_of_change (C := Try.checked) own started (by kernel_rfl) Try.func5
    (ChangeSpec.witness6 (enc := enc) (C := Try.checked) false ⟨#[], #[.string ByteArray.empty], []⟩ 8 (by kernel_rfl) (by kernel_rfl) (by kernel_rfl) (by kernel_rfl)) ?_
  intro W base args ds gs before hval0 hW hcnd _
  have hval : ∀ (j : Nat) t v, Try.f5.params[j]? = some t → args[j]? = some v → Value.okWide Try.prog W .any base t v := hval0
  have hW' := hW
  obtain ⟨p, q, hA0, hV, rfl, hfz, hnd⟩ := hW
  have hA : DataW.TrodAll enc Try.prog W 0 (fun _ => true) true Try.f5.params.toList args.toList ds p := hA0
  rw [Try.params5] at hA hval
  obtain ⟨v0, vs0, d0, ds0, p0, q0, hargs, rfl, rfl, h0, r0⟩ := trodAll_cons hA
  obtain ⟨rfl, rfl, rfl⟩ := trodAll_nil r0
  obtain rfl : args = #[v0] := by cases args; simp_all
  obtain ⟨rfl, rfl⟩ := trodVars_none hV
  have k0 := h0
  have lt0 : ∀ x ∈ p0, x.block < W.heap.size := by obtain ⟨m, hm⟩ := k0; exact DataW.trod_lt m _ _ _ hm
  obtain ⟨a0, rfl, -, -, w0⟩ := open_string Try.underlying9 (hval 0 9 v0 rfl rfl) h0
  clear hA0 hval0
  refine (walk_FnExactSplitWords a0 w0 (w := W)).mono fun e W' ⟨he, bel⟩ => ?_
  subst he
  exact ⟨_, rfl, _, _, _, [], _, [], hW', trodAll_mk1 (shut_bool Try.underlying4 _), (trodAll_cons_mk (Below.trod laidOut (by kernel_rfl) (of_decide_eq_true (by kernel_rfl)) k0 bel lt0) trodAll_mk0), rfl, bel.frame _, fun h => by cases h⟩

theorem proved : Rows.FnExactSplitWordsSaid :=
  OpenClaim.holds_of_wide 5 Try.f5 rfl rfl rfl rfl rfl rfl rfl ⟨rfl, rfl, rfl, rfl, rfl⟩ rfl rfl rfl rfl rfl (by kernel_rfl) Try.func5 (by kernel_rfl)
    (of_decide_eq_true (by kernel_rfl)) (by unfold Func.isWrapper; first | (rw [if_pos (by decide +kernel)]; kernel_rfl) | (rw [if_neg (by decide +kernel)]; exact ⟨rfl, rfl⟩))
    (fun os started H enc _ => lifted os started H enc)
end fnExactSplitWords

end Go.Proofs.Ytpmcfeokcagjdaa
