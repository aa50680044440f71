/- StandardRules and StandardName of the reference and of the program return the same, and so the laws on them hold. No conditions. -/
import Derived.Test.YtgogjjkecbgbiaaCh2
namespace Go.Proofs.Ytgogjjkecbgbiaa
open Go.Joins Go.ChangeShapes Go.WideShapes Go.ChangeAt Go.RowKit Go.Deep
open Go.ChangeMaps (open_string shut_string)
set_option linter.unusedVariables false

def rKalah : Value := .agg #[.int .i64 6, .int .i64 4, .bool true, .bool false, .bool false, .bool false, .bool true, .int .i64 2, .int .i64 0]
def rMini : Value := .agg #[.int .i64 3, .int .i64 2, .bool false, .bool false, .bool false, .bool true, .bool false, .int .i64 1, .int .i64 0]
def rOware : Value := .agg #[.int .i64 6, .int .i64 4, .bool false, .bool true, .bool false, .bool true, .bool false, .int .i64 1, .int .i64 2]
def rRelay : Value := .agg #[.int .i64 4, .int .i64 2, .bool false, .bool false, .bool true, .bool false, .bool false, .int .i64 2, .int .i64 0]
def rZero : Value := .agg #[.int .i64 0, .int .i64 0, .bool false, .bool false, .bool false, .bool false, .bool false, .int .i64 0, .int .i64 0]
/-- The rules of the game with a name, and the code. -/
def stdR (s : ByteArray) : Value × Int :=
  if s.toList == [107, 97, 108, 97, 104] then (rKalah, 0) else
  if s.toList == [109, 105, 110, 105] then (rMini, 0) else
  if s.toList == [111, 119, 97, 114, 101] then (rOware, 0) else
  if s.toList == [114, 101, 108, 97, 121] then (rRelay, 0) else (rZero, 3)

theorem spec_std (s : ByteArray) (w : World) :
    Calls Try.prog 54 #[.string s] w fun e w' => e = .returned (.tuple #[(stdR s).1, .int .i64 (stdR s).2]) ∧ Below w.heap.size w w' := by
  go_enter Try.func54, Try.ntmps54
  go_wp2
  · exact bodyPost_ret (v := .tuple #[rKalah, .int .i64 0]) (by simp [results, Try.results54, go_sem, rKalah]) rfl ⟨by simp [stdR, *], (by repeat (first | exact Below.refl _ _ | assumption | (refine Below.drew ?_) | (refine Below.setCell ?_ (by first | omega | (simp; done) | (simp; omega)) _) | (refine Below.alloc ?_ (by first | omega | (simp; done) | (simp; omega)) _) | (refine Below.trans ?_ (Below.mono (by assumption) (by first | omega | (simp; done) | (simp; omega))))))⟩
  · exact bodyPost_ret (v := .tuple #[rMini, .int .i64 0]) (by simp [results, Try.results54, go_sem, rMini]) rfl ⟨by simp [stdR, *], (by repeat (first | exact Below.refl _ _ | assumption | (refine Below.drew ?_) | (refine Below.setCell ?_ (by first | omega | (simp; done) | (simp; omega)) _) | (refine Below.alloc ?_ (by first | omega | (simp; done) | (simp; omega)) _) | (refine Below.trans ?_ (Below.mono (by assumption) (by first | omega | (simp; done) | (simp; omega))))))⟩
  · exact bodyPost_ret (v := .tuple #[rOware, .int .i64 0]) (by simp [results, Try.results54, go_sem, rOware]) rfl ⟨by simp [stdR, *], (by repeat (first | exact Below.refl _ _ | assumption | (refine Below.drew ?_) | (refine Below.setCell ?_ (by first | omega | (simp; done) | (simp; omega)) _) | (refine Below.alloc ?_ (by first | omega | (simp; done) | (simp; omega)) _) | (refine Below.trans ?_ (Below.mono (by assumption) (by first | omega | (simp; done) | (simp; omega))))))⟩
  · exact bodyPost_ret (v := .tuple #[rRelay, .int .i64 0]) (by simp [results, Try.results54, go_sem, rRelay]) rfl ⟨by simp [stdR, *], (by repeat (first | exact Below.refl _ _ | assumption | (refine Below.drew ?_) | (refine Below.setCell ?_ (by first | omega | (simp; done) | (simp; omega)) _) | (refine Below.alloc ?_ (by first | omega | (simp; done) | (simp; omega)) _) | (refine Below.trans ?_ (Below.mono (by assumption) (by first | omega | (simp; done) | (simp; omega))))))⟩
  · exact bodyPost_ret (v := .tuple #[rZero, .int .i64 3]) (by simp [results, Try.results54, go_sem, rZero]) rfl ⟨by simp [stdR, *], (by repeat (first | exact Below.refl _ _ | assumption | (refine Below.drew ?_) | (refine Below.setCell ?_ (by first | omega | (simp; done) | (simp; omega)) _) | (refine Below.alloc ?_ (by first | omega | (simp; done) | (simp; omega)) _) | (refine Below.trans ?_ (Below.mono (by assumption) (by first | omega | (simp; done) | (simp; omega))))))⟩


end Go.Proofs.Ytgogjjkecbgbiaa
