/- Decimal of the reference and of the program return the same, and so the law on it holds (over the table of powers of ten as the library's text lays it). No conditions. -/
import Derived.Test.YtmoilphgibigkaaDoorDec
import Derived.Test.YtmoilphgibigkaaDoorShelf
import Derived.Test.YtmoilphgibigkaaDoorCards
import Derived.Test.YtmoilphgibigkaaDoorTie
import Derived.Lay
import Derived.OpenVars
import Derived.Lib.LaidU8
import Derived.Lib.LaidTab
import Derived.MakeChecks
import Derived.LaidMore
import Derived.SevenTiedAt
import Derived.Stop.Joined
namespace Go.Proofs.YtmoilphgibigkaaDoor
open Go.Joins Go.ChangeShapes Go.WideShapes Go.ChangeAt Go.RowKit Go.Deep
open Go.ChangeMaps (open_string shut_string)
open Go.Sort (grow)
set_option linter.unusedVariables false

theorem pow_data : (Rows.laid_internal_strconv_uint64pow10 : DataW Unit) = Lib.tabData .u64 Lib.pow10Tab := by
  simp [Rows.laid_internal_strconv_uint64pow10, Lib.tabData, Lib.pow10Tab, List.range, List.range.loop]
def PowTab (w : World) : Prop := Lib.TabIs Tryd.prog w "internal/strconv.uint64pow10" .u64 Lib.pow10Tab
theorem pow_of_reads {W : World} (h : Lib.VarReads Tryd.prog W "internal/strconv.uint64pow10" Rows.laid_internal_strconv_uint64pow10) : PowTab W := by
  obtain ⟨g, t, cs, fuel, p, hg, hty, hvar, hd⟩ := h
  obtain rfl := Option.some.inj ((show Tryd.prog.globalNamed "internal/strconv.uint64pow10" = some 0 by kernel_rfl).symm.trans hg)
  obtain rfl := Option.some.inj ((show (Tryd.prog.globals[0]?).map (·.type) = some 66 by kernel_rfl).symm.trans hty)
  rw [pow_data] at hd
  have := Lib.cells_of_tab Tryd.underlying66 Tryd.underlying56 (by kernel_rfl) (by kernel_rfl) hd
  unfold PowTab Lib.TabIs
  rw [hvar, ← this]
theorem PowTab.lt {W : World} (h : PowTab W) : 0 < W.heap.size := by
  have := World.var?_cell (show Tryd.prog.globalNamed "internal/strconv.uint64pow10" = some 0 by kernel_rfl) h 0
  have h0 : W.cell? ⟨0, 0, none⟩ = some (.int .u64 1) := by rw [this]; simp [Lib.pow10Tab, List.range, List.range.loop]
  exact World.block_lt_of_cell? W _ h0
theorem PowTab.below {W W' : World} (h : PowTab W) (k : Below W.heap.size W W') : PowTab W' := by
  have hlt := h.lt
  unfold PowTab Lib.TabIs World.var? at h ⊢
  simp only [show Tryd.prog.globalNamed "internal/strconv.uint64pow10" = some 0 by kernel_rfl, Option.bind_some] at h ⊢
  rw [k.block 0 hlt]
  exact h

theorem below_grow (w : World) (n : Nat) (os : Array Obj) : Below w.heap.size w (grow (w.drewN n) os) :=
  ⟨rfl, rfl, rfl, by show w.heap.size ≤ (w.heap ++ os).size; rw [Array.size_append]; omega, fun k hk => by
    show (w.heap ++ os)[k]? = w.heap[k]?
    rw [Array.getElem?_append_left hk]⟩

theorem format_any (n : Int) (hn : I64 n) (w : World) (ht : PowTab w) :
    Calls Tryd.prog 24 #[.int .i64 n, .int .i64 10] w fun e w' => e = .returned (.string ⟨(Lib.itoa n).toArray⟩) ∧ Below w.heap.size w w' := by
  have Hn := Lib.hid hn
  have Ht := Lib.hid ht
  clear hn ht
  go_enter Tryd.func24, Tryd.ntmps24
  go_wp2_with fail
  refine (Tryd.internal_strconv_FormatInt_10 n Hn.out.1 Hn.out.2 _ Ht.out).mono ?_
  rintro e w' ⟨rfl, k, os, rfl⟩
  have hb := below_grow w k os
  generalize grow (w.drewN k) os = w1 at *
  go_wp2_with fail
  go_ret
  exact ⟨rfl, hb⟩
theorem impl_dec (n : Int) (hn : I64 n) (w : World) (ht : PowTab w) :
    Calls Tryd.prog 17 #[.int .i64 n] w fun e w' => e = .returned (.string ⟨(Lib.itoa n).toArray⟩) ∧ Below w.heap.size w w' := by
  have Hn := Lib.hid hn
  have Ht := Lib.hid ht
  clear hn ht
  go_enter Tryd.func17, Tryd.ntmps17
  go_wp2_with (go_at_call 24; refine (format_any _ Hn.out _ Ht.out).mono ?_; rintro e w1 ⟨rfl, hb1⟩; obtain ⟨hc1, hf1⟩ := bcell hb1; have hs1 := hb1.size; (try simp at hs1); (try have hz1 : w.heap.size < w1.heap.size := by omega); (try have hy1 : w.heap.size + 1 < w1.heap.size := by omega); (try have hx1 := fun o => hc1 w.heap.size o (by first | omega | (simp; done) | (simp; omega))); (try have hv1 := fun o => hc1 (w.heap.size + 1) o (by first | omega | (simp; done) | (simp; omega))))
  go_ret
  exact ⟨rfl, hb1⟩

end Go.Proofs.YtmoilphgibigkaaDoor
