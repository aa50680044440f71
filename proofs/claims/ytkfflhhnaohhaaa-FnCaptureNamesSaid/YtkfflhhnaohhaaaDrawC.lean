/- The drawing of a name of a kind of captures: from the same bytes the same text. No conditions. -/
import Derived.Test.YtkfflhhnaohhaaaSpoil
namespace Go.Proofs.Ytkfflhhnaohhaaa
open Go.Joins Go.ChangeShapes Go.WideShapes Go.ChangeAt Go.RowKit Go.Deep
set_option linter.unusedVariables false

theorem caps_ok {t : ByteArray} (h : t ∈ caps) : 1 ≤ t.size ∧ t.size ≤ 100 ∧ t.toList.isEmpty = false := by
  simp only [caps, List.mem_cons, List.not_mem_nil, or_false] at h
  rcases h with rfl | rfl | rfl | rfl
  all_goals exact ⟨by decide, by decide, by kernel_rfl⟩
theorem caps_at (n : Nat) (h : n < 4) : idxV (idxL caps (nameAt caps (n : Int)) 0) = .tuple #[.int .i64 (n : Int), .int .i64 0] := by
  rcases (by omega : n = 0 ∨ n = 1 ∨ n = 2 ∨ n = 3) with rfl | rfl | rfl | rfl
  all_goals kernel_rfl
set_option maxHeartbeats 2000000 in
theorem draw_told (a : Option Addr) (len cap : Nat) (f : Nat → Int) :
    ∃ t : ByteArray, ∀ w, BytesF w a len f → Calls Try.prog 7 #[.slice a len cap] w fun e w' => e = .returned (.string t) ∧ Below w.heap.size w w' := by
  obtain ⟨s, i1, u1, hs, hi1, c1⟩ := text_told a len cap f 0 0 caps 4 rfl (by omega) (by omega) (by omega)
  obtain ⟨h1, h2, h3⟩ := caps_ok hs
  obtain ⟨t, c2⟩ := spoil_told a len cap f i1 u1 s (by omega) h1 h2 h3
  have C1 := Lib.hid c1
  have C2 := Lib.hid c2
  clear c1 c2 h1 h2 h3 hs
  refine ⟨t, fun w h => ?_⟩
  have H := Lib.hid h
  clear h
  go_enter Try.func7, Try.ntmps7
  go_wp2_with (go_at_call 10; go_in)
  go_simp
  have hs0 : SrcD (w.alloc (.cells #[.slice a len cap, .int .i64 0, .int .u64 0] 38)) w.heap.size a len cap f 0 0 :=
    ⟨H.out.below ((Below.refl _ _).alloc (Nat.le_refl _) _), H.out.off, ⟨by simp, by go_simp, by go_simp, by go_simp, fun o => by go_simp, by decide, by decide⟩⟩
  have B1 := Lib.hid ((Below.refl w.heap.size w).alloc (Nat.le_refl _) (.cells #[.slice a len cap, .int .i64 0, .int .u64 0] 38))
  have S0 := Lib.hid hs0
  have hz1 : (w.alloc (.cells #[.slice a len cap, .int .i64 0, .int .u64 0] 38)).heap.size = w.heap.size + 1 := by simp
  clear hs0
  generalize w.alloc (.cells #[.slice a len cap, .int .i64 0, .int .u64 0] 38) = w1 at *
  refine (caps_any _).mono ?_
  rintro e w2 ⟨rfl, hb2, hs2, hr2⟩
  rw [hz1] at hr2 hs2
  have R2 := Lib.hid hr2
  have S2 := Lib.hid (S0.out.below hb2)
  have B2 := Lib.hid (B1.out.trans (hb2.mono B1.out.size))
  clear hr2 hb2
  go_wp2_with fail
  refine (C1.out w.heap.size w2 (w.heap.size + 1) 4 S2.out hs2 (by omega) R2.out.2).mono ?_
  rintro e w3 ⟨rfl, b3, s3⟩
  have S3 := Lib.hid s3
  have B3 := Lib.hid b3
  clear s3 b3
  go_wp2_with fail
  refine (C2.out w.heap.size w3 S3.out).mono ?_
  rintro e w4 ⟨rfl, b4⟩
  have B4 := Lib.hid (B3.out.trans b4)
  clear b4
  go_wp2
  go_ret
  exact ⟨rfl, But.lift B2.out B4.out (Nat.le_refl _)⟩
end Go.Proofs.Ytkfflhhnaohhaaa
