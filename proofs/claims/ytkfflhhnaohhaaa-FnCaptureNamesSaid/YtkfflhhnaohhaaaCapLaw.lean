/- CaptureName and CaptureNamed of the reference and of the program return the same. No conditions. -/
import Derived.Test.YtkfflhhnaohhaaaSlam
import Derived.Test.YtkfflhhnaohhaaaBut
namespace Go.Proofs.Ytkfflhhnaohhaaa
open Go.Joins Go.ChangeShapes Go.WideShapes Go.ChangeAt Go.RowKit Go.Deep
open Go.ChangeMaps (open_string shut_string)
set_option linter.unusedVariables false

set_option maxHeartbeats 1000000 in
theorem spec_capd (s : ByteArray) (w : World) : Calls Try.prog 8 #[.string s] w fun e w' =>
    e = .returned (idxV (idxL caps s 0)) ∧ Below w.heap.size w w' := by
  go_enter Try.func8, Try.ntmps8
  go_wp2_with fail
  refine (caps_any _).mono ?_
  rintro e2 w2 ⟨rfl, hb2, hs2, hr2⟩
  have HR := Lib.hid hr2
  have HB := Lib.hid hb2
  clear hr2 hb2
  go_wp2_with fail
  go_loopw [5] (fun i wr => ∃ k m : Nat, k ≤ 4 ∧ i = .int .i64 k ∧ wr = w2.drewN m ∧ idxL (caps.drop k) s k = idxL caps s 0) (fun i _ => 4 - (intOf i).toNat)
  case atStart => exact ⟨0, 0, Nat.zero_le _, rfl, rfl, rfl⟩
  case round =>
    obtain ⟨k, m, hk, rfl, rfl, hix⟩ := hrel
    have HX := Lib.hid hix
    clear hix
    by_cases hlt : k < 4
    · obtain ⟨x, hx⟩ : ∃ x, caps[k]? = some x := ⟨caps[k]'(by simp [caps]; omega), List.getElem?_eq_getElem _⟩
      have y1 : w2.cell? ⟨w.heap.size, k, none⟩ = some (.string x) := HR.out.2 k x hx
      have q0 : (0 : Int) ≤ (k : Int) := by omega
      have q1 : (k : Int) < 4 := by omega
      have HK := Lib.hid hx
      clear hx
      by_cases he : (x.toList == s.toList) = true
      · go_wp2
        go_ret2
        have ei : idxL caps s 0 = (k : Int) := by rw [← HX.out, idx_found HK.out he]
        exact ⟨by rw [ei, idxV_pos (by omega)]; rfl, below_dn HB.out _⟩
      · have he2 : (x.toList == s.toList) = false := by simpa using he
        clear he
        go_wp2
        go_roundw
        case rel => exact ⟨k + 1, _, by omega, by go_num, rfl, by rw [← HX.out, idx_step HK.out he2]⟩
        case measure => simp [intOf]; omega
    · have q1 : ¬ (k : Int) < 4 := by omega
      go_wp2
      go_ret2
      have ei : idxL caps s 0 = -1 := by rw [← HX.out, idx_none (by simp [caps]; omega)]
      exact ⟨by rw [ei, idxV_neg (by omega)]; rfl, below_dn HB.out _⟩
theorem impl_capd (s : ByteArray) (w : World) : Calls Try.prog 5 #[.string s] w fun e w' =>
    e = .returned (idxV (idxL caps s 0)) ∧ Below w.heap.size w w' := by
  obtain ⟨i, j, hi⟩ : ∃ i j : Int, idxV (idxL caps s 0) = .tuple #[.int .i64 i, .int .i64 j] := ⟨_, _, rfl⟩
  rw [hi]
  have HI := Lib.hid hi
  clear hi
  go_enter Try.func5, Try.ntmps5
  go_wp2_with fail
  refine (caps_named s _).mono ?_
  rintro e3 w3 ⟨rfl, hb3⟩
  rw [HI.out]
  go_wp2_with fail
  go_ret2
  exact ⟨rfl, hb3⟩

end Go.Proofs.Ytkfflhhnaohhaaa
