/- StandardName of the reference and of the program return the same, and so the law on it holds. No conditions. -/
import Derived.Test.YtpmcfeokcagjdaaStd
import Derived.LoopN
namespace Go.Proofs.Ytpmcfeokcagjdaa
open Go.Joins Go.ChangeShapes Go.WideShapes Go.ChangeAt Go.RowKit Go.Deep
open Go.ChangeMaps (open_string shut_string)
set_option linter.unusedVariables false

theorem std_kalah : stdR ⟨#[107, 97, 108, 97, 104]⟩ = (.agg #[.int .i64 6, .int .i64 4, .bool true, .bool false, .bool false, .bool false, .bool true, .int .i64 2, .int .i64 0], 0) := by simp [stdR, rKalah, rMini, rOware, rRelay, ByteArray.toList_mk]
theorem std_mini : stdR ⟨#[109, 105, 110, 105]⟩ = (.agg #[.int .i64 3, .int .i64 2, .bool false, .bool false, .bool false, .bool true, .bool false, .int .i64 1, .int .i64 0], 0) := by simp [stdR, rKalah, rMini, rOware, rRelay, ByteArray.toList_mk]
theorem std_oware : stdR ⟨#[111, 119, 97, 114, 101]⟩ = (.agg #[.int .i64 6, .int .i64 4, .bool false, .bool true, .bool false, .bool true, .bool false, .int .i64 1, .int .i64 2], 0) := by simp [stdR, rKalah, rMini, rOware, rRelay, ByteArray.toList_mk]
theorem std_relay : stdR ⟨#[114, 101, 108, 97, 121]⟩ = (.agg #[.int .i64 4, .int .i64 2, .bool false, .bool false, .bool true, .bool false, .bool false, .int .i64 2, .int .i64 0], 0) := by simp [stdR, rKalah, rMini, rOware, rRelay, ByteArray.toList_mk]

/-- Two rules are equal. -/
def eqB (P S C L : Int) (ST SK RE FE AG : Bool) (p s c l : Int) (st sk re fe ag : Bool) : Bool := decide (P = p ∧ S = s ∧ ST = st ∧ SK = sk ∧ RE = re ∧ FE = fe ∧ AG = ag ∧ C = c ∧ L = l)
theorem run_eqB (P S C L : Int) (ST SK RE FE AG : Bool) (p s c l : Int) (st sk re fe ag : Bool) (b : Bool) (h : eqB P S C L ST SK RE FE AG p s c l st sk re fe ag = b) (w : World) :
    (binOp .eql 25 (.agg #[.int .i64 P, .int .i64 S, .bool ST, .bool SK, .bool RE, .bool FE, .bool AG, .int .i64 C, .int .i64 L]) (.agg #[.int .i64 p, .int .i64 s, .bool st, .bool sk, .bool re, .bool fe, .bool ag, .int .i64 c, .int .i64 l])).run Try.prog w = .ok (.bool b) w := by
  subst h
  unfold eqB
  go_simp
  by_cases h0 : P = p <;> by_cases h1 : S = s <;> by_cases h2 : ST = st <;> by_cases h3 : SK = sk <;> by_cases h4 : RE = re <;> by_cases h5 : FE = fe <;> by_cases h6 : AG = ag <;> by_cases h7 : C = c <;> by_cases h8 : L = l <;> simp [h0, h1, h2, h3, h4, h5, h6, h7, h8]

/-- The name of the game with these rules, and the code. -/
def nameR (k m o r : Bool) : ByteArray × Int :=
  if k then (⟨#[107, 97, 108, 97, 104]⟩, 0) else if m then (⟨#[109, 105, 110, 105]⟩, 0) else if o then (⟨#[111, 119, 97, 114, 101]⟩, 0) else if r then (⟨#[114, 101, 108, 97, 121]⟩, 0) else (ByteArray.empty, 3)

theorem spec_name (p s c l : Int) (st sk re fe ag : Bool) (k m o r : Bool) (hk : eqB 6 4 2 0 true false false false true p s c l st sk re fe ag = k) (hm : eqB 3 2 1 0 false false false true false p s c l st sk re fe ag = m)
    (ho : eqB 6 4 1 2 false true false true false p s c l st sk re fe ag = o) (hr : eqB 4 2 2 0 false false true false false p s c l st sk re fe ag = r) (w : World) :
    Calls Try.prog 35 #[.agg #[.int .i64 p, .int .i64 s, .bool st, .bool sk, .bool re, .bool fe, .bool ag, .int .i64 c, .int .i64 l]] w fun e w' => e = .returned (.tuple #[.string (nameR k m o r).1, .int .i64 (nameR k m o r).2]) ∧ Below w.heap.size w w' := by
  have ek := fun w => run_eqB _ _ _ _ _ _ _ _ _ p s c l st sk re fe ag k hk w
  have em := fun w => run_eqB _ _ _ _ _ _ _ _ _ p s c l st sk re fe ag m hm w
  have eo := fun w => run_eqB _ _ _ _ _ _ _ _ _ p s c l st sk re fe ag o ho w
  have er := fun w => run_eqB _ _ _ _ _ _ _ _ _ p s c l st sk re fe ag r hr w
  clear hk hm ho hr
  go_enter Try.func35, Try.ntmps35
  go_wp2_with (first | (go_at_call 30; go_in))
  refine wp_loop_rounds 5 ?_
  rw [rounds_succ]
  cases k
  · go_wp2_with (first | (go_at_call 32; refine (spec_std _ _).mono ?_; rintro e w1 ⟨rfl, hb1⟩; obtain ⟨hc1, hf1⟩ := bcell hb1; have hs1 := hb1.size; (try simp at hs1); (try have hz1 : w.heap.size < w1.heap.size := by omega); (try have hy1 : w.heap.size + 1 < w1.heap.size := by omega); (try have hx1 := fun o => hc1 w.heap.size o (by first | omega | (simp; done) | (simp; omega))); (try have hv1 := fun o => hc1 (w.heap.size + 1) o (by first | omega | (simp; done) | (simp; omega))); rw [std_kalah]))
    rw [rounds_succ]
    cases m
    · go_wp2_with (first | (go_at_call 32; refine (spec_std _ _).mono ?_; rintro e w2 ⟨rfl, hb2⟩; obtain ⟨hc2, hf2⟩ := bcell hb2; have hs2 := hb2.size; (try simp at hs2); (try have hz2 : w.heap.size < w2.heap.size := by omega); (try have hy2 : w.heap.size + 1 < w2.heap.size := by omega); (try have hx2 := fun o => hc2 w.heap.size o (by first | omega | (simp; done) | (simp; omega))); (try have hv2 := fun o => hc2 (w.heap.size + 1) o (by first | omega | (simp; done) | (simp; omega))); (try have hq21 : w1.heap.size < w2.heap.size := by omega); rw [std_mini]))
      rw [rounds_succ]
      cases o
      · go_wp2_with (first | (go_at_call 32; refine (spec_std _ _).mono ?_; rintro e w3 ⟨rfl, hb3⟩; obtain ⟨hc3, hf3⟩ := bcell hb3; have hs3 := hb3.size; (try simp at hs3); (try have hz3 : w.heap.size < w3.heap.size := by omega); (try have hy3 : w.heap.size + 1 < w3.heap.size := by omega); (try have hx3 := fun o => hc3 w.heap.size o (by first | omega | (simp; done) | (simp; omega))); (try have hv3 := fun o => hc3 (w.heap.size + 1) o (by first | omega | (simp; done) | (simp; omega))); (try have hq31 : w1.heap.size < w3.heap.size := by omega); (try have hq32 : w2.heap.size < w3.heap.size := by omega); rw [std_oware]))
        rw [rounds_succ]
        cases r
        · go_wp2_with (first | (go_at_call 32; refine (spec_std _ _).mono ?_; rintro e w4 ⟨rfl, hb4⟩; obtain ⟨hc4, hf4⟩ := bcell hb4; have hs4 := hb4.size; (try simp at hs4); (try have hz4 : w.heap.size < w4.heap.size := by omega); (try have hy4 : w.heap.size + 1 < w4.heap.size := by omega); (try have hx4 := fun o => hc4 w.heap.size o (by first | omega | (simp; done) | (simp; omega))); (try have hv4 := fun o => hc4 (w.heap.size + 1) o (by first | omega | (simp; done) | (simp; omega))); (try have hq41 : w1.heap.size < w4.heap.size := by omega); (try have hq42 : w2.heap.size < w4.heap.size := by omega); (try have hq43 : w3.heap.size < w4.heap.size := by omega); rw [std_relay]))
          rw [rounds_succ]
          go_wp2
          go_ret2
          exact ⟨rfl, (by repeat (first | exact Below.refl _ _ | assumption | (refine Below.drew ?_) | (refine Below.setCell ?_ (by first | omega | (simp; done) | (simp; omega)) _) | (refine Below.alloc ?_ (by first | omega | (simp; done) | (simp; omega)) _) | (refine Below.trans ?_ (Below.mono (by assumption) (by first | omega | (simp; done) | (simp; omega))))))⟩
        · go_wp2_with (first | (go_at_call 32; refine (spec_std _ _).mono ?_; rintro e w4 ⟨rfl, hb4⟩; obtain ⟨hc4, hf4⟩ := bcell hb4; have hs4 := hb4.size; (try simp at hs4); (try have hz4 : w.heap.size < w4.heap.size := by omega); (try have hy4 : w.heap.size + 1 < w4.heap.size := by omega); (try have hx4 := fun o => hc4 w.heap.size o (by first | omega | (simp; done) | (simp; omega))); (try have hv4 := fun o => hc4 (w.heap.size + 1) o (by first | omega | (simp; done) | (simp; omega))); (try have hq41 : w1.heap.size < w4.heap.size := by omega); (try have hq42 : w2.heap.size < w4.heap.size := by omega); (try have hq43 : w3.heap.size < w4.heap.size := by omega); rw [std_relay]))
          go_ret2
          exact ⟨rfl, (by repeat (first | exact Below.refl _ _ | assumption | (refine Below.drew ?_) | (refine Below.setCell ?_ (by first | omega | (simp; done) | (simp; omega)) _) | (refine Below.alloc ?_ (by first | omega | (simp; done) | (simp; omega)) _) | (refine Below.trans ?_ (Below.mono (by assumption) (by first | omega | (simp; done) | (simp; omega))))))⟩
      · go_wp2_with (first | (go_at_call 32; refine (spec_std _ _).mono ?_; rintro e w3 ⟨rfl, hb3⟩; obtain ⟨hc3, hf3⟩ := bcell hb3; have hs3 := hb3.size; (try simp at hs3); (try have hz3 : w.heap.size < w3.heap.size := by omega); (try have hy3 : w.heap.size + 1 < w3.heap.size := by omega); (try have hx3 := fun o => hc3 w.heap.size o (by first | omega | (simp; done) | (simp; omega))); (try have hv3 := fun o => hc3 (w.heap.size + 1) o (by first | omega | (simp; done) | (simp; omega))); (try have hq31 : w1.heap.size < w3.heap.size := by omega); (try have hq32 : w2.heap.size < w3.heap.size := by omega); rw [std_oware]))
        go_ret2
        exact ⟨rfl, (by repeat (first | exact Below.refl _ _ | assumption | (refine Below.drew ?_) | (refine Below.setCell ?_ (by first | omega | (simp; done) | (simp; omega)) _) | (refine Below.alloc ?_ (by first | omega | (simp; done) | (simp; omega)) _) | (refine Below.trans ?_ (Below.mono (by assumption) (by first | omega | (simp; done) | (simp; omega))))))⟩
    · go_wp2_with (first | (go_at_call 32; refine (spec_std _ _).mono ?_; rintro e w2 ⟨rfl, hb2⟩; obtain ⟨hc2, hf2⟩ := bcell hb2; have hs2 := hb2.size; (try simp at hs2); (try have hz2 : w.heap.size < w2.heap.size := by omega); (try have hy2 : w.heap.size + 1 < w2.heap.size := by omega); (try have hx2 := fun o => hc2 w.heap.size o (by first | omega | (simp; done) | (simp; omega))); (try have hv2 := fun o => hc2 (w.heap.size + 1) o (by first | omega | (simp; done) | (simp; omega))); (try have hq21 : w1.heap.size < w2.heap.size := by omega); rw [std_mini]))
      go_ret2
      exact ⟨rfl, (by repeat (first | exact Below.refl _ _ | assumption | (refine Below.drew ?_) | (refine Below.setCell ?_ (by first | omega | (simp; done) | (simp; omega)) _) | (refine Below.alloc ?_ (by first | omega | (simp; done) | (simp; omega)) _) | (refine Below.trans ?_ (Below.mono (by assumption) (by first | omega | (simp; done) | (simp; omega))))))⟩
  · go_wp2_with (first | (go_at_call 32; refine (spec_std _ _).mono ?_; rintro e w1 ⟨rfl, hb1⟩; obtain ⟨hc1, hf1⟩ := bcell hb1; have hs1 := hb1.size; (try simp at hs1); (try have hz1 : w.heap.size < w1.heap.size := by omega); (try have hy1 : w.heap.size + 1 < w1.heap.size := by omega); (try have hx1 := fun o => hc1 w.heap.size o (by first | omega | (simp; done) | (simp; omega))); (try have hv1 := fun o => hc1 (w.heap.size + 1) o (by first | omega | (simp; done) | (simp; omega))); rw [std_kalah]))
    go_ret2
    exact ⟨rfl, (by repeat (first | exact Below.refl _ _ | assumption | (refine Below.drew ?_) | (refine Below.setCell ?_ (by first | omega | (simp; done) | (simp; omega)) _) | (refine Below.alloc ?_ (by first | omega | (simp; done) | (simp; omega)) _) | (refine Below.trans ?_ (Below.mono (by assumption) (by first | omega | (simp; done) | (simp; omega))))))⟩

theorem impl_name (p s c l : Int) (st sk re fe ag : Bool) (k m o r : Bool) (hk : eqB 6 4 2 0 true false false false true p s c l st sk re fe ag = k) (hm : eqB 3 2 1 0 false false false true false p s c l st sk re fe ag = m)
    (ho : eqB 6 4 1 2 false true false true false p s c l st sk re fe ag = o) (hr : eqB 4 2 2 0 false false true false false p s c l st sk re fe ag = r) (w : World) :
    Calls Try.prog 36 #[.agg #[.int .i64 p, .int .i64 s, .bool st, .bool sk, .bool re, .bool fe, .bool ag, .int .i64 c, .int .i64 l]] w fun e w' => e = .returned (.tuple #[.string (nameR k m o r).1, .int .i64 (nameR k m o r).2]) ∧ Below w.heap.size w w' := by
  have ek := fun w => run_eqB _ _ _ _ _ _ _ _ _ p s c l st sk re fe ag k hk w
  have em := fun w => run_eqB _ _ _ _ _ _ _ _ _ p s c l st sk re fe ag m hm w
  have eo := fun w => run_eqB _ _ _ _ _ _ _ _ _ p s c l st sk re fe ag o ho w
  have er := fun w => run_eqB _ _ _ _ _ _ _ _ _ p s c l st sk re fe ag r hr w
  clear hk hm ho hr
  go_enter Try.func36, Try.ntmps36
  go_wp2_with (first | (go_at_call 31; go_in))
  refine wp_loop_rounds 5 ?_
  rw [rounds_succ]
  cases k
  · go_wp2_with (first | (go_at_call 33; refine (impl_std _ _).mono ?_; rintro e w1 ⟨rfl, hb1⟩; obtain ⟨hc1, hf1⟩ := bcell hb1; have hs1 := hb1.size; (try simp at hs1); (try have hz1 : w.heap.size < w1.heap.size := by omega); (try have hy1 : w.heap.size + 1 < w1.heap.size := by omega); (try have hx1 := fun o => hc1 w.heap.size o (by first | omega | (simp; done) | (simp; omega))); (try have hv1 := fun o => hc1 (w.heap.size + 1) o (by first | omega | (simp; done) | (simp; omega))); rw [std_kalah]))
    rw [rounds_succ]
    cases m
    · go_wp2_with (first | (go_at_call 33; refine (impl_std _ _).mono ?_; rintro e w2 ⟨rfl, hb2⟩; obtain ⟨hc2, hf2⟩ := bcell hb2; have hs2 := hb2.size; (try simp at hs2); (try have hz2 : w.heap.size < w2.heap.size := by omega); (try have hy2 : w.heap.size + 1 < w2.heap.size := by omega); (try have hx2 := fun o => hc2 w.heap.size o (by first | omega | (simp; done) | (simp; omega))); (try have hv2 := fun o => hc2 (w.heap.size + 1) o (by first | omega | (simp; done) | (simp; omega))); (try have hq21 : w1.heap.size < w2.heap.size := by omega); rw [std_mini]))
      rw [rounds_succ]
      cases o
      · go_wp2_with (first | (go_at_call 33; refine (impl_std _ _).mono ?_; rintro e w3 ⟨rfl, hb3⟩; obtain ⟨hc3, hf3⟩ := bcell hb3; have hs3 := hb3.size; (try simp at hs3); (try have hz3 : w.heap.size < w3.heap.size := by omega); (try have hy3 : w.heap.size + 1 < w3.heap.size := by omega); (try have hx3 := fun o => hc3 w.heap.size o (by first | omega | (simp; done) | (simp; omega))); (try have hv3 := fun o => hc3 (w.heap.size + 1) o (by first | omega | (simp; done) | (simp; omega))); (try have hq31 : w1.heap.size < w3.heap.size := by omega); (try have hq32 : w2.heap.size < w3.heap.size := by omega); rw [std_oware]))
        rw [rounds_succ]
        cases r
        · go_wp2_with (first | (go_at_call 33; refine (impl_std _ _).mono ?_; rintro e w4 ⟨rfl, hb4⟩; obtain ⟨hc4, hf4⟩ := bcell hb4; have hs4 := hb4.size; (try simp at hs4); (try have hz4 : w.heap.size < w4.heap.size := by omega); (try have hy4 : w.heap.size + 1 < w4.heap.size := by omega); (try have hx4 := fun o => hc4 w.heap.size o (by first | omega | (simp; done) | (simp; omega))); (try have hv4 := fun o => hc4 (w.heap.size + 1) o (by first | omega | (simp; done) | (simp; omega))); (try have hq41 : w1.heap.size < w4.heap.size := by omega); (try have hq42 : w2.heap.size < w4.heap.size := by omega); (try have hq43 : w3.heap.size < w4.heap.size := by omega); rw [std_relay]))
          rw [rounds_succ]
          go_wp2
          go_ret2
          exact ⟨rfl, (by repeat (first | exact Below.refl _ _ | assumption | (refine Below.drew ?_) | (refine Below.setCell ?_ (by first | omega | (simp; done) | (simp; omega)) _) | (refine Below.alloc ?_ (by first | omega | (simp; done) | (simp; omega)) _) | (refine Below.trans ?_ (Below.mono (by assumption) (by first | omega | (simp; done) | (simp; omega))))))⟩
        · go_wp2_with (first | (go_at_call 33; refine (impl_std _ _).mono ?_; rintro e w4 ⟨rfl, hb4⟩; obtain ⟨hc4, hf4⟩ := bcell hb4; have hs4 := hb4.size; (try simp at hs4); (try have hz4 : w.heap.size < w4.heap.size := by omega); (try have hy4 : w.heap.size + 1 < w4.heap.size := by omega); (try have hx4 := fun o => hc4 w.heap.size o (by first | omega | (simp; done) | (simp; omega))); (try have hv4 := fun o => hc4 (w.heap.size + 1) o (by first | omega | (simp; done) | (simp; omega))); (try have hq41 : w1.heap.size < w4.heap.size := by omega); (try have hq42 : w2.heap.size < w4.heap.size := by omega); (try have hq43 : w3.heap.size < w4.heap.size := by omega); rw [std_relay]))
          go_ret2
          exact ⟨rfl, (by repeat (first | exact Below.refl _ _ | assumption | (refine Below.drew ?_) | (refine Below.setCell ?_ (by first | omega | (simp; done) | (simp; omega)) _) | (refine Below.alloc ?_ (by first | omega | (simp; done) | (simp; omega)) _) | (refine Below.trans ?_ (Below.mono (by assumption) (by first | omega | (simp; done) | (simp; omega))))))⟩
      · go_wp2_with (first | (go_at_call 33; refine (impl_std _ _).mono ?_; rintro e w3 ⟨rfl, hb3⟩; obtain ⟨hc3, hf3⟩ := bcell hb3; have hs3 := hb3.size; (try simp at hs3); (try have hz3 : w.heap.size < w3.heap.size := by omega); (try have hy3 : w.heap.size + 1 < w3.heap.size := by omega); (try have hx3 := fun o => hc3 w.heap.size o (by first | omega | (simp; done) | (simp; omega))); (try have hv3 := fun o => hc3 (w.heap.size + 1) o (by first | omega | (simp; done) | (simp; omega))); (try have hq31 : w1.heap.size < w3.heap.size := by omega); (try have hq32 : w2.heap.size < w3.heap.size := by omega); rw [std_oware]))
        go_ret2
        exact ⟨rfl, (by repeat (first | exact Below.refl _ _ | assumption | (refine Below.drew ?_) | (refine Below.setCell ?_ (by first | omega | (simp; done) | (simp; omega)) _) | (refine Below.alloc ?_ (by first | omega | (simp; done) | (simp; omega)) _) | (refine Below.trans ?_ (Below.mono (by assumption) (by first | omega | (simp; done) | (simp; omega))))))⟩
    · go_wp2_with (first | (go_at_call 33; refine (impl_std _ _).mono ?_; rintro e w2 ⟨rfl, hb2⟩; obtain ⟨hc2, hf2⟩ := bcell hb2; have hs2 := hb2.size; (try simp at hs2); (try have hz2 : w.heap.size < w2.heap.size := by omega); (try have hy2 : w.heap.size + 1 < w2.heap.size := by omega); (try have hx2 := fun o => hc2 w.heap.size o (by first | omega | (simp; done) | (simp; omega))); (try have hv2 := fun o => hc2 (w.heap.size + 1) o (by first | omega | (simp; done) | (simp; omega))); (try have hq21 : w1.heap.size < w2.heap.size := by omega); rw [std_mini]))
      go_ret2
      exact ⟨rfl, (by repeat (first | exact Below.refl _ _ | assumption | (refine Below.drew ?_) | (refine Below.setCell ?_ (by first | omega | (simp; done) | (simp; omega)) _) | (refine Below.alloc ?_ (by first | omega | (simp; done) | (simp; omega)) _) | (refine Below.trans ?_ (Below.mono (by assumption) (by first | omega | (simp; done) | (simp; omega))))))⟩
  · go_wp2_with (first | (go_at_call 33; refine (impl_std _ _).mono ?_; rintro e w1 ⟨rfl, hb1⟩; obtain ⟨hc1, hf1⟩ := bcell hb1; have hs1 := hb1.size; (try simp at hs1); (try have hz1 : w.heap.size < w1.heap.size := by omega); (try have hy1 : w.heap.size + 1 < w1.heap.size := by omega); (try have hx1 := fun o => hc1 w.heap.size o (by first | omega | (simp; done) | (simp; omega))); (try have hv1 := fun o => hc1 (w.heap.size + 1) o (by first | omega | (simp; done) | (simp; omega))); rw [std_kalah]))
    go_ret2
    exact ⟨rfl, (by repeat (first | exact Below.refl _ _ | assumption | (refine Below.drew ?_) | (refine Below.setCell ?_ (by first | omega | (simp; done) | (simp; omega)) _) | (refine Below.alloc ?_ (by first | omega | (simp; done) | (simp; omega)) _) | (refine Below.trans ?_ (Below.mono (by assumption) (by first | omega | (simp; done) | (simp; omega))))))⟩

theorem walk_FnExactStandardName (x : RV) (hx : x.Fit) (w : World) :
    Calls Try.prog 9 #[x.val] w fun e w' => e = .returned (.bool true) ∧ Below w.heap.size w w' := by
  obtain ⟨p, s, st, sk, re, fe, ag, c, l⟩ := x
  show Calls Try.prog 9 #[.agg #[.int .i64 p, .int .i64 s, .bool st, .bool sk, .bool re, .bool fe, .bool ag, .int .i64 c, .int .i64 l]] w _
  obtain ⟨k, hk⟩ : ∃ k, eqB 6 4 2 0 true false false false true p s c l st sk re fe ag = k := ⟨_, rfl⟩
  obtain ⟨m, hm⟩ : ∃ m, eqB 3 2 1 0 false false false true false p s c l st sk re fe ag = m := ⟨_, rfl⟩
  obtain ⟨o, ho⟩ : ∃ o, eqB 6 4 1 2 false true false true false p s c l st sk re fe ag = o := ⟨_, rfl⟩
  obtain ⟨r, hr⟩ : ∃ r, eqB 4 2 2 0 false false true false false p s c l st sk re fe ag = r := ⟨_, rfl⟩
  obtain ⟨v, u, hvu⟩ : ∃ v u, nameR k m o r = (v, u) := ⟨_, _, rfl⟩
  have Hk := Lib.hid hk
  have Hm := Lib.hid hm
  have Ho := Lib.hid ho
  have Hr := Lib.hid hr
  have Hn := Lib.hid hvu
  clear hk hm ho hr hvu hx
  go_enter Try.func9, Try.ntmps9
  go_wp2_with (first | (go_at_call 28; refine (toRules_any p s c l st sk re fe ag _).mono ?_; rintro e w1 ⟨rfl, hb1⟩; obtain ⟨hc1, hf1⟩ := bcell hb1; have hs1 := hb1.size; (try simp at hs1); (try have hz1 : w.heap.size < w1.heap.size := by omega); (try have hy1 : w.heap.size + 1 < w1.heap.size := by omega); (try have hx1 := fun o => hc1 w.heap.size o (by first | omega | (simp; done) | (simp; omega))); (try have hv1 := fun o => hc1 (w.heap.size + 1) o (by first | omega | (simp; done) | (simp; omega)))) | (go_at_call 35; refine (spec_name p s c l st sk re fe ag k m o r Hk.out Hm.out Ho.out Hr.out _).mono ?_; rintro e w2 ⟨rfl, hb2⟩; obtain ⟨hc2, hf2⟩ := bcell hb2; have hs2 := hb2.size; (try simp at hs2); (try have hz2 : w.heap.size < w2.heap.size := by omega); (try have hy2 : w.heap.size + 1 < w2.heap.size := by omega); (try have hx2 := fun o => hc2 w.heap.size o (by first | omega | (simp; done) | (simp; omega))); (try have hv2 := fun o => hc2 (w.heap.size + 1) o (by first | omega | (simp; done) | (simp; omega))); (try have hq21 : w1.heap.size < w2.heap.size := by omega); rw [Hn.out]) | (go_at_call 36; refine (impl_name p s c l st sk re fe ag k m o r Hk.out Hm.out Ho.out Hr.out _).mono ?_; rintro e w3 ⟨rfl, hb3⟩; obtain ⟨hc3, hf3⟩ := bcell hb3; have hs3 := hb3.size; (try simp at hs3); (try have hz3 : w.heap.size < w3.heap.size := by omega); (try have hy3 : w.heap.size + 1 < w3.heap.size := by omega); (try have hx3 := fun o => hc3 w.heap.size o (by first | omega | (simp; done) | (simp; omega))); (try have hv3 := fun o => hc3 (w.heap.size + 1) o (by first | omega | (simp; done) | (simp; omega))); (try have hq31 : w1.heap.size < w3.heap.size := by omega); (try have hq32 : w2.heap.size < w3.heap.size := by omega); rw [Hn.out]))
  go_ret
  exact ⟨rfl, (by repeat (first | exact Below.refl _ _ | assumption | (refine Below.drew ?_) | (refine Below.setCell ?_ (by first | omega | (simp; done) | (simp; omega)) _) | (refine Below.alloc ?_ (by first | omega | (simp; done) | (simp; omega)) _) | (refine Below.trans ?_ (Below.mono (by assumption) (by first | omega | (simp; done) | (simp; omega))))))⟩
namespace fnExactStandardName
set_option maxRecDepth 100000 in
theorem lifted (os : Os) (started : os.Started) (H : Type) (enc : TypeId × Value → H) :
    ReturnsInHanded {} Try.checked os 9 .any (Rows.fnExactStandardNameSpec.pre6 enc Try.prog Try.f9 Rows.fnExactStandardNameRow.domain false) (Rows.fnExactStandardNameSpec.post enc Try.prog Try.f9 false true false false) := by
  refine returnsInHanded_of_change (C := Try.checked) own started (by kernel_rfl) Try.func9
    (ChangeSpec.witness6 (enc := enc) (C := Try.checked) false ⟨#[], #[.agg #[.int .i64 0, .int .i64 0, .bool false, .bool false, .bool false, .bool false, .bool false, .int .i64 0, .int .i64 0]], []⟩ 8 (by kernel_rfl) (by kernel_rfl) (by kernel_rfl) (by kernel_rfl)) ?_
  intro W base args ds gs before hval0 hW hcnd _
  have hval : ∀ (j : Nat) t v, Try.f9.params[j]? = some t → args[j]? = some v → Value.okWide Try.prog W .any base t v := hval0
  have hW' := hW
  obtain ⟨p, q, hA0, hV, rfl, hfz, hnd⟩ := hW
  have hA : DataW.TrodAll enc Try.prog W 0 (fun _ => true) true Try.f9.params.toList args.toList ds p := hA0
  rw [Try.params9] at hA hval
  obtain ⟨v0, vs0, d0, ds0, p0, q0, hargs, rfl, rfl, h0, r0⟩ := trodAll_cons hA
  obtain ⟨rfl, rfl, rfl⟩ := trodAll_nil r0
  obtain rfl : args = #[v0] := by cases args; simp_all
  obtain ⟨rfl, rfl⟩ := trodVars_none hV
  have k0 := h0
  have lt0 : ∀ x ∈ p0, x.block < W.heap.size := by obtain ⟨m, hm⟩ := k0; exact DataW.trod_lt m _ _ _ hm
  obtain ⟨x0, rfl, w0⟩ := open_rules Try.underlying36 Try.underlying2 Try.underlying4 (by kernel_rfl) (by kernel_rfl) (hval 0 36 v0 rfl rfl) h0
  clear hA0 hval0
  refine (walk_FnExactStandardName x0 w0 W).mono fun e W' ⟨he, bel⟩ => ?_
  subst he
  exact ⟨_, rfl, _, _, _, [], _, [], hW', trodAll_mk1 (shut_bool Try.underlying4 _), (trodAll_cons_mk (Below.trod laidOut (by kernel_rfl) (of_decide_eq_true (by kernel_rfl)) k0 bel lt0) trodAll_mk0), rfl, bel.frame _, fun h => by cases h⟩

theorem proved : Rows.FnExactStandardNameSaid :=
  OpenClaim.holds_of_wide 9 Try.f9 rfl rfl rfl rfl rfl rfl rfl ⟨rfl, rfl, rfl, rfl, rfl⟩ rfl rfl rfl rfl rfl (by kernel_rfl) Try.func9 (by kernel_rfl)
    (of_decide_eq_true (by kernel_rfl)) (by unfold Func.isWrapper; first | (rw [if_pos (by decide +kernel)]; kernel_rfl) | (rw [if_neg (by decide +kernel)]; exact ⟨rfl, rfl⟩))
    (fun os started H enc _ => lifted os started H enc)
end fnExactStandardName

end Go.Proofs.Ytpmcfeokcagjdaa
