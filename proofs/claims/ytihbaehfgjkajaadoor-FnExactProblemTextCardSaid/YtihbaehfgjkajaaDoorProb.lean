/- Texts of problems: the program's errors by what their variables hold, and what the reference and the program return. No conditions. -/
import Derived.Test.YtihbaehfgjkajaaDoorDecLaw
import Derived.Test.YtihbaehfgjkajaaDoorSlam
import Derived.Stop.LaidErr
import Derived.Deep.RegionHeld3
import Derived.Handy
import Derived.Lib.ItoaLen
namespace Go.Proofs.YtihbaehfgjkajaaDoor
open Go.Joins Go.ChangeShapes Go.WideShapes Go.ChangeAt Go.RowKit Go.Deep
open Go.ChangeMaps (open_string shut_string)
set_option linter.unusedVariables false

/-- The variable g holds an error with a text. -/
def Sent (w : World) (g : Nat) (t : ByteArray) : Prop := ∃ a : Addr, w.cell? ⟨g, 0, none⟩ = some (.iface 156 (.pointer (some a))) ∧ w.cell? a = some (.string t)
theorem Sent.below {w w' : World} {g : Nat} {t : ByteArray} (h : Sent w g t) (k : Below w.heap.size w w') : Sent w' g t := by
  obtain ⟨a, h1, h2⟩ := h
  exact ⟨a, by rw [k.cell (World.block_lt_of_cell? w _ h1)]; exact h1, by rw [k.cell (World.block_lt_of_cell? w _ h2)]; exact h2⟩
theorem star_err : "*" ++ "errors.errorString" = "*errors.errorString" := by decide
theorem row_err (u : TypeId) (h : Tryd.prog.typeName? 3 u = some "*errors.errorString") : u = 156 :=
  typeName_ptr_named (nm := "errors.errorString") (by rw [star_err]; kernel_rfl) (by kernel_rfl) (by decide) u (by rw [star_err]; exact h)
theorem sent_of {W : World} {n : String} {g : Nat} {t : List UInt8} {r : List (String × DataW Unit)} (h : laidMet Tryd.prog ((n, .iface "*errors.errorString" (.ptr (.agg [.lit (.string t)]))) :: r) W)
    (hg : Tryd.prog.globalNamed n = some g) (hy : (Tryd.prog.globals[g]?).map (·.type) = some 94) : Sent W g ⟨t.toArray⟩ := by
  obtain ⟨a, s, hv, hc, hs, _⟩ := laid_sentinel h hg hy Tryd.underlying94 row_err Tryd.underlying156 Tryd.underlying158 rfl rfl Tryd.underlying9 (by kernel_rfl) (by kernel_rfl)
  refine ⟨a, by simpa using World.var?_cell hg hv 0, ?_⟩
  rw [hc, ← hs]
structure Sents (w : World) : Prop where
  s0 : Sent w 0 ⟨#[117, 110, 107, 110, 111, 119, 110, 32, 119, 111, 114, 100]⟩
  s1 : Sent w 1 ⟨#[103, 105, 118, 101, 110, 32, 116, 119, 105, 99, 101]⟩
  s2 : Sent w 2 ⟨#[110, 111, 116, 32, 97, 32, 110, 117, 109, 98, 101, 114]⟩
  s3 : Sent w 3 ⟨#[110, 111, 116, 32, 97, 108, 108, 111, 119, 101, 100]⟩
  s4 : Sent w 4 ⟨#[109, 105, 115, 115, 105, 110, 103]⟩
  s5 : Sent w 5 ⟨#[110, 101, 101, 100, 115, 32, 115, 116, 111, 114, 101, 115]⟩
theorem Sents.below {w w' : World} (h : Sents w) (k : Below w.heap.size w w') : Sents w' := ⟨h.s0.below k, h.s1.below k, h.s2.below k, h.s3.below k, h.s4.below k, h.s5.below k⟩
def msgs : List ByteArray := [⟨#[117, 110, 107, 110, 111, 119, 110, 32, 119, 111, 114, 100]⟩, ⟨#[103, 105, 118, 101, 110, 32, 116, 119, 105, 99, 101]⟩, ⟨#[110, 111, 116, 32, 97, 32, 110, 117, 109, 98, 101, 114]⟩, ⟨#[110, 111, 116, 32, 97, 108, 108, 111, 119, 101, 100]⟩, ⟨#[109, 105, 115, 115, 105, 110, 103]⟩, ⟨#[110, 101, 101, 100, 115, 32, 115, 116, 111, 114, 101, 115]⟩]
/-- A row of the six errors. -/
def CauseP (w : World) (e : Ending) (w' : World) : Prop :=
  e = .returned (.slice (some ⟨w.heap.size, 0, none⟩) 6 6) ∧ Below w.heap.size w w' ∧ w.heap.size < w'.heap.size ∧ ∀ (i : Nat) t, msgs[i]? = some t → ∃ a : Addr, w'.cell? ⟨w.heap.size, i, none⟩ = some (.iface 156 (.pointer (some a))) ∧ w'.cell? a = some (.string t)
theorem causes_any (w : World) (h : Sents w) : Calls Tryd.prog 62 #[] w (CauseP w) := by
  obtain ⟨⟨a0, c0, d0⟩, ⟨a1, c1, d1⟩, ⟨a2, c2, d2⟩, ⟨a3, c3, d3⟩, ⟨a4, c4, d4⟩, ⟨a5, c5, d5⟩⟩ := h
  have D0 := Lib.hid d0
  have D1 := Lib.hid d1
  have D2 := Lib.hid d2
  have D3 := Lib.hid d3
  have D4 := Lib.hid d4
  have D5 := Lib.hid d5
  clear d0 d1 d2 d3 d4 d5
  go_enter Tryd.func62, Tryd.ntmps62
  go_wp2
  go_ret
  refine ⟨rfl, (Below.refl _ _).alloc (Nat.le_refl _) _, by simp, fun i t ht => ?_⟩
  have hk := fun {a : Addr} {t : ByteArray} (h : w.cell? a = some (.string t)) (o : Obj) => show (w.alloc o).cell? a = some (.string t) by
    rw [Below.cell ((Below.refl w.heap.size w).alloc (Nat.le_refl _) o) (World.block_lt_of_cell? w _ h)]; exact h
  match i, ht with
  | 0, ht => cases ht; exact ⟨a0, by go_simp, hk D0.out _⟩
  | 1, ht => cases ht; exact ⟨a1, by go_simp, hk D1.out _⟩
  | 2, ht => cases ht; exact ⟨a2, by go_simp, hk D2.out _⟩
  | 3, ht => cases ht; exact ⟨a3, by go_simp, hk D3.out _⟩
  | 4, ht => cases ht; exact ⟨a4, by go_simp, hk D4.out _⟩
  | 5, ht => cases ht; exact ⟨a5, by go_simp, hk D5.out _⟩
theorem err_text (a : Addr) (t : ByteArray) (w : World) (h : w.cell? a = some (.string t)) : Calls Tryd.prog 156 #[.pointer (some a)] w fun e w' => e = .returned (.string t) ∧ w = w' := by
  obtain ⟨b, o, r⟩ := a
  go_enter Tryd.func156, Tryd.ntmps156
  go_wp2
  go_ret
  exact ⟨rfl, rfl⟩
theorem dec_size (n : Int) (hn : I64 n) : (⟨(Lib.itoa n).toArray⟩ : ByteArray).size ≤ 21 := Lib.itoa_length_le n hn.1 hn.2
def pText (n : Int) (word t : ByteArray) : ByteArray := (((⟨(Lib.itoa n).toArray⟩ ++ ⟨#[58, 32]⟩) ++ word) ++ ⟨#[58, 32]⟩) ++ t

set_option maxHeartbeats 2000000 in
set_option maxRecDepth 100000 in
theorem word_error (n : Int) (hn : I64 n) (word t : ByteArray) (a : Addr) (w : World) (hp : PowTab w) (h : w.cell? a = some (.string t)) (hw : word.size ≤ 2000000) (ht : t.size ≤ 100) :
    Calls Tryd.prog 63 #[.agg #[.int .i64 n, .string word, .iface 156 (.pointer (some a))]] w fun e w' => e = .returned (.string (pText n word t)) ∧ Below w.heap.size w w' := by
  obtain ⟨D, hD⟩ : ∃ D : ByteArray, (⟨(Lib.itoa n).toArray⟩ : ByteArray) = D := ⟨_, rfl⟩
  have hDs : D.size ≤ 21 := by rw [← hD]; exact dec_size n hn
  have n1 : ¬ 9223372036854775807 < D.size + 2 := by omega
  have n2 : ¬ 9223372036854775807 < D.size + 2 + word.size := by omega
  have n3 : ¬ 9223372036854775807 < D.size + 2 + word.size + 2 := by omega
  have n4 : ¬ 9223372036854775807 < D.size + 2 + word.size + 2 + t.size := by omega
  have HD := Lib.hid hD
  have HN := Lib.hid hn
  have B0 := (Below.refl w.heap.size w).alloc (Nat.le_refl _) (.cells #[.int .i64 n, .string word, .iface 156 (.pointer (some a))] 96)
  have hp0 := hp.below B0
  have h0 : (w.alloc (.cells #[.int .i64 n, .string word, .iface 156 (.pointer (some a))] 96)).cell? a = some (.string t) := by rw [B0.cell (World.block_lt_of_cell? w _ h)]; exact h
  have e0 : (w.alloc (.cells #[.int .i64 n, .string word, .iface 156 (.pointer (some a))] 96)).cell? ⟨w.heap.size, 0, none⟩ = some (.int .i64 n) := by go_simp
  have e1 : (w.alloc (.cells #[.int .i64 n, .string word, .iface 156 (.pointer (some a))] 96)).cell? ⟨w.heap.size, 1, none⟩ = some (.string word) := by go_simp
  have e2 : (w.alloc (.cells #[.int .i64 n, .string word, .iface 156 (.pointer (some a))] 96)).cell? ⟨w.heap.size, 2, none⟩ = some (.iface 156 (.pointer (some a))) := by go_simp
  have hz : w.heap.size < (w.alloc (.cells #[.int .i64 n, .string word, .iface 156 (.pointer (some a))] 96)).heap.size := by simp
  have HB := Lib.hid B0
  have HP := Lib.hid hp0
  have E := Lib.hid (show _ ∧ _ ∧ _ ∧ _ ∧ _ from ⟨hz, e0, e1, e2, h0⟩)
  clear hn B0 hp0 h0 e0 e1 e2 hz hp h hD
  go_enter Tryd.func63, Tryd.ntmps63
  go_wp2_with fail
  generalize w.alloc _ = w0 at *
  have SA : Hid (Below w0.heap.size w0 w0) := Lib.hid (Below.refl _ _)
  have KE : ∀ w', Below w0.heap.size w0 w' → (w'.cell? ⟨w.heap.size, 0, none⟩ = some (.int .i64 n) ∧ w'.cell? ⟨w.heap.size, 1, none⟩ = some (.string word) ∧ w'.cell? ⟨w.heap.size, 2, none⟩ = some (.iface 156 (.pointer (some a))) ∧ w'.cell? a = some (.string t) ∧ Below w0.heap.size w0 w') := fun w' k => by
    obtain ⟨hz, e0, e1, e2, h0⟩ := E.out
    exact ⟨by rw [k.cell (p := ⟨w.heap.size, 0, none⟩) hz]; exact e0, by rw [k.cell (p := ⟨w.heap.size, 1, none⟩) hz]; exact e1, by rw [k.cell (p := ⟨w.heap.size, 2, none⟩) hz]; exact e2, by rw [k.cell (World.block_lt_of_cell? w0 _ h0)]; exact h0, k⟩
  have KE := Lib.hid KE
  go_region_held3 (fun w' => w'.cell? ⟨w.heap.size, 0, none⟩ = some (.int .i64 n) ∧ w'.cell? ⟨w.heap.size, 1, none⟩ = some (.string word) ∧ w'.cell? ⟨w.heap.size, 2, none⟩ = some (.iface 156 (.pointer (some a))) ∧ w'.cell? a = some (.string t) ∧ Below w0.heap.size w0 w') (first | exact KE.out _ SA.out | exact KE.out _ SA.out.drew)
    (first
    | (go_at_call 54; refine (impl_dec _ HN.out _ (by first | exact HP.out.below SA.out | exact HP.out.below SA.out.drew)).mono ?_; rintro e w1 ⟨rfl, hb1⟩; rw [HD.out]; have SA := Lib.hid (by first | exact SA.out.trans (hb1.mono SA.out.size) | exact SA.out.drew.trans (hb1.mono SA.out.drew.size) : Below w0.heap.size w0 w1))
    | (go_at_call 156; refine (err_text a t _ (by first | exact (KE.out _ SA.out).2.2.2.1 | exact (KE.out _ SA.out.drew).2.2.2.1)).mono ?_; rintro e w2 ⟨rfl, rfl⟩))
  all_goals
    go_wp2_with fail
    go_ret
    exact ⟨by unfold pText; rw [HD.out]; rfl, HB.out.trans (SA.out.mono HB.out.size)⟩
end Go.Proofs.YtihbaehfgjkajaaDoor
