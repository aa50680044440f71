/- StandardName of the reference and of the program return the same, and so the law on it holds. No conditions. -/
import Derived.Test.YtkpmocjghpeppaaStd
import Derived.LoopN
namespace Go.Proofs.Ytkpmocjghpeppaa
open Go.Joins Go.ChangeShapes Go.WideShapes Go.ChangeAt Go.RowKit Go.Deep
open Go.ChangeMaps (open_string shut_string)
set_option linter.unusedVariables false

theorem std_kalah : stdR ⟨#[107, 97, 108, 97, 104]⟩ = (.agg #[.int .i64 6, .int .i64 4, .bool true, .bool false, .bool false, .bool false, .bool true, .int .i64 2, .int .i64 0], 0) := by simp [stdR, rKalah, rMini, rOware, rRelay, ByteArray.toList_mk]
theorem std_mini : stdR ⟨#[109, 105, 110, 105]⟩ = (.agg #[.int .i64 3, .int .i64 2, .bool false, .bool false, .bool false, .bool true, .bool false, .int .i64 1, .int .i64 0], 0) := by simp [stdR, rKalah, rMini, rOware, rRelay, ByteArray.toList_mk]
theorem std_oware : stdR ⟨#[111, 119, 97, 114, 101]⟩ = (.agg #[.int .i64 6, .int .i64 4, .bool false, .bool true, .bool false, .bool true, .bool false, .int .i64 1, .int .i64 2], 0) := by simp [stdR, rKalah, rMini, rOware, rRelay, ByteArray.toList_mk]
theorem std_relay : stdR ⟨#[114, 101, 108, 97, 121]⟩ = (.agg #[.int .i64 4, .int .i64 2, .bool false, .bool false, .bool true, .bool false, .bool false, .int .i64 2, .int .i64 0], 0) := by simp [stdR, rKalah, rMini, rOware, rRelay, ByteArray.toList_mk]

/-- Two rules are equal. -/
def eqB (P S C L : Int) (ST SK RE FE AG : Bool) (p s c l : Int) (st sk re fe ag : Bool) : Bool := decide (P = p ∧ S = s ∧ ST = st ∧ SK = sk ∧ RE = re ∧ FE = fe ∧ AG = ag ∧ C = c ∧ L = l)
theorem run_eqB (P S C L : Int) (ST SK RE FE AG : Bool) (p s c l : Int) (st sk re fe ag : Bool) (b : Bool) (h : eqB P S C L ST SK RE FE AG p s c l st sk re fe ag = b) (w : World) :
    (binOp .eql 25 (.agg #[.int .i64 P, .int .i64 S, .bool ST, .bool SK, .bool RE, .bool FE, .bool AG, .int .i64 C, .int .i64 L]) (.agg #[.int .i64 p, .int .i64 s, .bool st, .bool sk, .bool re, .bool fe, .bool ag, .int .i64 c, .int .i64 l])).run Try.prog w = .ok (.bool b) w := by
  subst h
  unfold eqB
  go_simp
  by_cases h0 : P = p <;> by_cases h1 : S = s <;> by_cases h2 : ST = st <;> by_cases h3 : SK = sk <;> by_cases h4 : RE = re <;> by_cases h5 : FE = fe <;> by_cases h6 : AG = ag <;> by_cases h7 : C = c <;> by_cases h8 : L = l <;> simp [h0, h1, h2, h3, h4, h5, h6, h7, h8]

/-- The name of the game with these rules, and the code. -/
def nameR (k m o r : Bool) : ByteArray × Int :=
  if k then (⟨#[107, 97, 108, 97, 104]⟩, 0) else if m then (⟨#[109, 105, 110, 105]⟩, 0) else if o then (⟨#[111, 119, 97, 114, 101]⟩, 0) else if r then (⟨#[114, 101, 108, 97, 121]⟩, 0) else (ByteArray.empty, 3)

theorem impl_name (p s c l : Int) (st sk re fe ag : Bool) (k m o r : Bool) (hk : eqB 6 4 2 0 true false false false true p s c l st sk re fe ag = k) (hm : eqB 3 2 1 0 false false false true false p s c l st sk re fe ag = m)
    (ho : eqB 6 4 1 2 false true false true false p s c l st sk re fe ag = o) (hr : eqB 4 2 2 0 false false true false false p s c l st sk re fe ag = r) (w : World) :
    Calls Try.prog 24 #[.agg #[.int .i64 p, .int .i64 s, .bool st, .bool sk, .bool re, .bool fe, .bool ag, .int .i64 c, .int .i64 l]] w fun e w' => e = .returned (.tuple #[.string (nameR k m o r).1, .int .i64 (nameR k m o r).2]) ∧ Below w.heap.size w w' := by
  have ek := fun w => run_eqB _ _ _ _ _ _ _ _ _ p s c l st sk re fe ag k hk w
  have em := fun w => run_eqB _ _ _ _ _ _ _ _ _ p s c l st sk re fe ag m hm w
  have eo := fun w => run_eqB _ _ _ _ _ _ _ _ _ p s c l st sk re fe ag o ho w
  have er := fun w => run_eqB _ _ _ _ _ _ _ _ _ p s c l st sk re fe ag r hr w
  clear hk hm ho hr
  go_enter Try.func24, Try.ntmps24
  go_wp2_with (first | (go_at_call 22; go_in))
  refine wp_loop_rounds 5 ?_
  rw [rounds_succ]
  cases k
  · go_wp2_with (first | (go_at_call 23; refine (impl_std _ _).mono ?_; rintro e w1 ⟨rfl, hb1⟩; obtain ⟨hc1, hf1⟩ := bcell hb1; have hs1 := hb1.size; (try simp at hs1); (try have hz1 : w.heap.size < w1.heap.size := by omega); (try have hy1 : w.heap.size + 1 < w1.heap.size := by omega); (try have hx1 := fun o => hc1 w.heap.size o (by first | omega | (simp; done) | (simp; omega))); (try have hv1 := fun o => hc1 (w.heap.size + 1) o (by first | omega | (simp; done) | (simp; omega))); rw [std_kalah]))
    rw [rounds_succ]
    cases m
    · go_wp2_with (first | (go_at_call 23; refine (impl_std _ _).mono ?_; rintro e w2 ⟨rfl, hb2⟩; obtain ⟨hc2, hf2⟩ := bcell hb2; have hs2 := hb2.size; (try simp at hs2); (try have hz2 : w.heap.size < w2.heap.size := by omega); (try have hy2 : w.heap.size + 1 < w2.heap.size := by omega); (try have hx2 := fun o => hc2 w.heap.size o (by first | omega | (simp; done) | (simp; omega))); (try have hv2 := fun o => hc2 (w.heap.size + 1) o (by first | omega | (simp; done) | (simp; omega))); (try have hq21 : w1.heap.size < w2.heap.size := by omega); rw [std_mini]))
      rw [rounds_succ]
      cases o
      · go_wp2_with (first | (go_at_call 23; refine (impl_std _ _).mono ?_; rintro e w3 ⟨rfl, hb3⟩; obtain ⟨hc3, hf3⟩ := bcell hb3; have hs3 := hb3.size; (try simp at hs3); (try have hz3 : w.heap.size < w3.heap.size := by omega); (try have hy3 : w.heap.size + 1 < w3.heap.size := by omega); (try have hx3 := fun o => hc3 w.heap.size o (by first | omega | (simp; done) | (simp; omega))); (try have hv3 := fun o => hc3 (w.heap.size + 1) o (by first | omega | (simp; done) | (simp; omega))); (try have hq31 : w1.heap.size < w3.heap.size := by omega); (try have hq32 : w2.heap.size < w3.heap.size := by omega); rw [std_oware]))
        rw [rounds_succ]
        cases r
        · go_wp2_with (first | (go_at_call 23; refine (impl_std _ _).mono ?_; rintro e w4 ⟨rfl, hb4⟩; obtain ⟨hc4, hf4⟩ := bcell hb4; have hs4 := hb4.size; (try simp at hs4); (try have hz4 : w.heap.size < w4.heap.size := by omega); (try have hy4 : w.heap.size + 1 < w4.heap.size := by omega); (try have hx4 := fun o => hc4 w.heap.size o (by first | omega | (simp; done) | (simp; omega))); (try have hv4 := fun o => hc4 (w.heap.size + 1) o (by first | omega | (simp; done) | (simp; omega))); (try have hq41 : w1.heap.size < w4.heap.size := by omega); (try have hq42 : w2.heap.size < w4.heap.size := by omega); (try have hq43 : w3.heap.size < w4.heap.size := by omega); rw [std_relay]))
          rw [rounds_succ]
          go_wp2
          go_ret2
          exact ⟨rfl, (by repeat (first | exact Below.refl _ _ | assumption | (refine Below.drew ?_) | (refine Below.setCell ?_ (by first | omega | (simp; done) | (simp; omega)) _) | (refine Below.alloc ?_ (by first | omega | (simp; done) | (simp; omega)) _) | (refine Below.trans ?_ (Below.mono (by assumption) (by first | omega | (simp; done) | (simp; omega))))))⟩
        · go_wp2_with (first | (go_at_call 23; refine (impl_std _ _).mono ?_; rintro e w4 ⟨rfl, hb4⟩; obtain ⟨hc4, hf4⟩ := bcell hb4; have hs4 := hb4.size; (try simp at hs4); (try have hz4 : w.heap.size < w4.heap.size := by omega); (try have hy4 : w.heap.size + 1 < w4.heap.size := by omega); (try have hx4 := fun o => hc4 w.heap.size o (by first | omega | (simp; done) | (simp; omega))); (try have hv4 := fun o => hc4 (w.heap.size + 1) o (by first | omega | (simp; done) | (simp; omega))); (try have hq41 : w1.heap.size < w4.heap.size := by omega); (try have hq42 : w2.heap.size < w4.heap.size := by omega); (try have hq43 : w3.heap.size < w4.heap.size := by omega); rw [std_relay]))
          go_ret2
          exact ⟨rfl, (by repeat (first | exact Below.refl _ _ | assumption | (refine Below.drew ?_) | (refine Below.setCell ?_ (by first | omega | (simp; done) | (simp; omega)) _) | (refine Below.alloc ?_ (by first | omega | (simp; done) | (simp; omega)) _) | (refine Below.trans ?_ (Below.mono (by assumption) (by first | omega | (simp; done) | (simp; omega))))))⟩
      · go_wp2_with (first | (go_at_call 23; refine (impl_std _ _).mono ?_; rintro e w3 ⟨rfl, hb3⟩; obtain ⟨hc3, hf3⟩ := bcell hb3; have hs3 := hb3.size; (try simp at hs3); (try have hz3 : w.heap.size < w3.heap.size := by omega); (try have hy3 : w.heap.size + 1 < w3.heap.size := by omega); (try have hx3 := fun o => hc3 w.heap.size o (by first | omega | (simp; done) | (simp; omega))); (try have hv3 := fun o => hc3 (w.heap.size + 1) o (by first | omega | (simp; done) | (simp; omega))); (try have hq31 : w1.heap.size < w3.heap.size := by omega); (try have hq32 : w2.heap.size < w3.heap.size := by omega); rw [std_oware]))
        go_ret2
        exact ⟨rfl, (by repeat (first | exact Below.refl _ _ | assumption | (refine Below.drew ?_) | (refine Below.setCell ?_ (by first | omega | (simp; done) | (simp; omega)) _) | (refine Below.alloc ?_ (by first | omega | (simp; done) | (simp; omega)) _) | (refine Below.trans ?_ (Below.mono (by assumption) (by first | omega | (simp; done) | (simp; omega))))))⟩
    · go_wp2_with (first | (go_at_call 23; refine (impl_std _ _).mono ?_; rintro e w2 ⟨rfl, hb2⟩; obtain ⟨hc2, hf2⟩ := bcell hb2; have hs2 := hb2.size; (try simp at hs2); (try have hz2 : w.heap.size < w2.heap.size := by omega); (try have hy2 : w.heap.size + 1 < w2.heap.size := by omega); (try have hx2 := fun o => hc2 w.heap.size o (by first | omega | (simp; done) | (simp; omega))); (try have hv2 := fun o => hc2 (w.heap.size + 1) o (by first | omega | (simp; done) | (simp; omega))); (try have hq21 : w1.heap.size < w2.heap.size := by omega); rw [std_mini]))
      go_ret2
      exact ⟨rfl, (by repeat (first | exact Below.refl _ _ | assumption | (refine Below.drew ?_) | (refine Below.setCell ?_ (by first | omega | (simp; done) | (simp; omega)) _) | (refine Below.alloc ?_ (by first | omega | (simp; done) | (simp; omega)) _) | (refine Below.trans ?_ (Below.mono (by assumption) (by first | omega | (simp; done) | (simp; omega))))))⟩
  · go_wp2_with (first | (go_at_call 23; refine (impl_std _ _).mono ?_; rintro e w1 ⟨rfl, hb1⟩; obtain ⟨hc1, hf1⟩ := bcell hb1; have hs1 := hb1.size; (try simp at hs1); (try have hz1 : w.heap.size < w1.heap.size := by omega); (try have hy1 : w.heap.size + 1 < w1.heap.size := by omega); (try have hx1 := fun o => hc1 w.heap.size o (by first | omega | (simp; done) | (simp; omega))); (try have hv1 := fun o => hc1 (w.heap.size + 1) o (by first | omega | (simp; done) | (simp; omega))); rw [std_kalah]))
    go_ret2
    exact ⟨rfl, (by repeat (first | exact Below.refl _ _ | assumption | (refine Below.drew ?_) | (refine Below.setCell ?_ (by first | omega | (simp; done) | (simp; omega)) _) | (refine Below.alloc ?_ (by first | omega | (simp; done) | (simp; omega)) _) | (refine Below.trans ?_ (Below.mono (by assumption) (by first | omega | (simp; done) | (simp; omega))))))⟩

end Go.Proofs.Ytkpmocjghpeppaa
