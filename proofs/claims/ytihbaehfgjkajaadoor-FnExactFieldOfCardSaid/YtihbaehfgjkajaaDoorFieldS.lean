/- FieldOf of the reference returns the same as the program's. No conditions. -/
import Derived.Test.YtihbaehfgjkajaaDoorFieldOf
namespace Go.Proofs.YtihbaehfgjkajaaDoor
open Go.Joins Go.ChangeShapes Go.WideShapes Go.ChangeAt Go.RowKit Go.Deep
set_option linter.unusedVariables false

theorem spec_fieldOf (p s c l : Int) (st sk re fe ag : Bool) (s' : ByteArray) (w : World) : Calls Tryd.prog 27 #[.agg #[.int .i64 p, .int .i64 s, .bool st, .bool sk, .bool re, .bool fe, .bool ag, .int .i64 c, .int .i64 l], .string s'] w fun e w' => e = .returned (fieldE (okR p s c l st ag) (valL p s c l st sk re fe ag) (idxL flds s' 0)) ∧ Below w.heap.size w w' := by
  rcases hok : okR p s c l st ag with _ | _
  · have Hok := Lib.hid hok
    clear hok
    go_enter Tryd.func27, Tryd.ntmps27
    go_wp2_with (go_at_call 43; refine (l02Ok_any p s c l st sk re fe ag w.heap.size _ (by go_simp) (by go_simp) (by go_simp) (by go_simp) (by go_simp) (by go_simp) (by go_simp) (by go_simp) (by go_simp)).mono ?_; rintro e w1 ⟨rfl, rfl⟩; rw [Hok.out])
    go_ret2
    exact ⟨rfl, by go_grown⟩
  · have Hok := Lib.hid hok
    obtain ⟨i, hi⟩ : ∃ i, idxL flds s' 0 = i := ⟨_, rfl⟩
    have HI := Lib.hid hi
    have hrg := idx_range flds s' 0
    rw [hi] at hrg ⊢
    have e1 : fieldE true (valL p s c l st sk re fe ag) i = fieldV (valL p s c l st sk re fe ag) i := rfl
    rw [e1]
    clear hok hi e1
    have RA := Lib.hid (rules_new p s c l st sk re fe ag w 25)
    have HB0 := Lib.hid ((Below.refl w.heap.size w).alloc (Nat.le_refl _) (.cells #[.int .i64 p, .int .i64 s, .bool st, .bool sk, .bool re, .bool fe, .bool ag, .int .i64 c, .int .i64 l] 25))
    have hl9 : flds.length = 9 := rfl
    rw [hl9] at hrg
    by_cases hneg : i < 0
    · rw [fieldV_neg hneg]
      go_enter Tryd.func27, Tryd.ntmps27
      go_wp2_with (first | (go_at_call 43; refine (l02Ok_any p s c l st sk re fe ag w.heap.size _ (by go_simp) (by go_simp) (by go_simp) (by go_simp) (by go_simp) (by go_simp) (by go_simp) (by go_simp) (by go_simp)).mono ?_; rintro e w1 ⟨rfl, rfl⟩; rw [Hok.out]) | fail)
      refine (flds_any _).mono ?_
      rintro e w2 ⟨rfl, hb2, hs2, hr2⟩
      go_wp2_with fail
      simp only [World.size_alloc] at hr2
      refine (index_any flds _ 9 9 s' _ hl9 (by omega) hr2).mono ?_
      rintro e w3 ⟨rfl, hb3⟩
      rw [HI.out]
      go_wp2_with fail
      go_ret2
      exact ⟨rfl, HB0.out.trans ((hb2.trans (hb3.mono hb2.size)).mono (by simp))⟩
    · obtain ⟨n, rfl⟩ : ∃ n : Nat, i = (n : Int) := ⟨i.toNat, by omega⟩
      obtain ⟨x, hx⟩ : ∃ x, (valL p s c l st sk re fe ag)[n]? = some x := ⟨(valL p s c l st sk re fe ag)[n]'(by simp [valL]; omega), List.getElem?_eq_getElem _⟩
      rw [fieldV_at n x rfl hx]
      have HXX := Lib.hid hx
      have q1 : (n : Int) < 9 := by omega
      clear hx hrg
      go_enter Tryd.func27, Tryd.ntmps27
      go_wp2_with (first | (go_at_call 43; refine (l02Ok_any p s c l st sk re fe ag w.heap.size _ (by go_simp) (by go_simp) (by go_simp) (by go_simp) (by go_simp) (by go_simp) (by go_simp) (by go_simp) (by go_simp)).mono ?_; rintro e w1 ⟨rfl, rfl⟩; rw [Hok.out]) | fail)
      refine (flds_any _).mono ?_
      rintro e w2 ⟨rfl, hb2, hs2, hr2⟩
      have RA2 := Lib.hid (RA.out.below hb2)
      go_wp2_with fail
      simp only [World.size_alloc] at hr2
      refine (index_any flds _ 9 9 s' _ hl9 (by omega) hr2).mono ?_
      rintro e w3 ⟨rfl, hb3⟩
      rw [HI.out]
      obtain ⟨hbk, d0, d1, d2, d3, d4, d5, d6, d7, d8⟩ := RA2.out.below hb3
      go_wp2_with fail
      refine (vals_any p s c l st sk re fe ag w.heap.size _ d0 d1 d2 d3 d4 d5 d6 d7 d8).mono ?_
      rintro e w4 ⟨g, rfl, hb4, hg4, hr4⟩
      have y := hr4.2.1 n x HXX.out
      have HB4 := hb2.trans ((hb3.trans (hb4.mono hb3.size)).mono hb2.size)
      clear d0 d1 d2 d3 d4 d5 d6 d7 d8
      go_wp2_with fail
      go_ret2
      exact ⟨rfl, HB0.out.trans (HB4.mono (by simp))⟩
end Go.Proofs.YtihbaehfgjkajaaDoor
