/- Numbers joined by commas, and the text of a position: the reference's. No conditions. -/
import Derived.Test.YtmoilphgibigkaaDoorDec
import Derived.Test.YtmoilphgibigkaaDoorRowN
import Derived.Lib.ItoaLen
namespace Go.Proofs.YtmoilphgibigkaaDoor
open Go.Joins Go.ChangeShapes Go.WideShapes Go.ChangeAt Go.RowKit Go.Deep
set_option linter.unusedVariables false

/-- What stands for a number at place k of a list that is joined: a comma from the second on. -/
def joinL : List Int → List UInt8
  | [] => []
  | x :: r => (r.foldl (fun t y => t ++ 44 :: Lib.itoa y) (Lib.itoa x))
theorem joinL_snoc (l : List Int) (x : Int) : joinL (l ++ [x]) = (if l = [] then [] else joinL l ++ [44]) ++ Lib.itoa x := by
  cases l with
  | nil => rfl
  | cons y r =>
    rw [if_neg (by simp), List.cons_append]
    show List.foldl _ _ (r ++ [x]) = _
    rw [List.foldl_append]
    simp [joinL]
theorem ba_app (a b : List UInt8) : ((⟨a.toArray⟩ : ByteArray) ++ ⟨b.toArray⟩) = ⟨(a ++ b).toArray⟩ := by
  rw [ByteArray.mk_append_mk]
  first | done | simp
theorem joinL_len {xs : List Int} (h : ∀ x ∈ xs, I64 x) : (joinL xs).length ≤ 22 * xs.length := by
  have key : ∀ (r : List Int) (t : List UInt8), (∀ x ∈ r, I64 x) → (r.foldl (fun t y => t ++ 44 :: Lib.itoa y) t).length ≤ t.length + 22 * r.length := by
    intro r
    induction r with
    | nil => intro t _; simp
    | cons y r ih =>
      intro t hr
      have h1 := ih (t ++ 44 :: Lib.itoa y) (fun x hx => hr x (List.mem_cons_of_mem _ hx))
      have h2 := Lib.itoa_length_le y (by have := hr y (List.mem_cons_self ..); unfold I64 at this; omega) (by have := hr y (List.mem_cons_self ..); unfold I64 at this; omega)
      rw [List.foldl_cons]
      simp only [List.length_append, List.length_cons] at h1 ⊢
      omega
  cases xs with
  | nil => simp [joinL]
  | cons y r =>
    have h1 := key r (Lib.itoa y) (fun x hx => h x (List.mem_cons_of_mem _ hx))
    have h2 := Lib.itoa_length_le y (by have := h y (List.mem_cons_self ..); unfold I64 at this; omega) (by have := h y (List.mem_cons_self ..); unfold I64 at this; omega)
    simp only [joinL, List.length_cons]
    omega
theorem row_sub {w : World} {g o : Nat} {xs : List Int} (h : RowN w (some ⟨g, o, none⟩) xs) (hne : xs ≠ []) (k m : Nat) : RowN w (some ⟨g, o + k, none⟩) ((xs.drop k).take m) := by
  obtain ⟨hl, h | ⟨g', o', ha, hg, hx⟩⟩ := h
  · exact absurd h hne
  · cases ha
    refine ⟨by rw [List.length_take, List.length_drop]; omega, .inr ⟨g, o + k, rfl, hg, fun i x hi => ?_⟩⟩
    rw [List.getElem?_take] at hi
    split at hi
    · rw [List.getElem?_drop] at hi
      rw [Nat.add_assoc]
      exact hx _ _ hi
    · cases hi
/-- The text of a position. -/
def posT (P : Nat) (pl : Int) (xs ys : List Int) : List UInt8 := Lib.itoa pl ++ [32] ++ joinL (xs.take P) ++ [47] ++ joinL (xs.drop P) ++ [32] ++ joinL ys
end Go.Proofs.YtmoilphgibigkaaDoor
