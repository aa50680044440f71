/- The texts of moves, joined: plain facts, and rows of texts of one's own. No conditions. -/
import Derived.Test.YtmoilphgibigkaaDoorMtS
import Derived.Test.YtmoilphgibigkaaDoorSplit
import Derived.Lib.Join
namespace Go.Proofs.YtmoilphgibigkaaDoor
open Go.Joins Go.ChangeShapes Go.WideShapes Go.ChangeAt Go.RowKit Go.Deep
set_option linter.unusedVariables false

theorem mv_fold (r : List Int) : ∀ t, r.foldl (fun t y => t ++ 32 :: Lib.itoa y) t = t ++ Lib.joinTail [32] (r.map Lib.itoa) := by
  induction r with
  | nil => intro t; simp [Lib.joinTail]
  | cons y r ih =>
    intro t
    rw [List.foldl_cons, ih]
    simp [Lib.joinTail]
theorem mv_join (xs : List Int) : mvL xs = Lib.join (xs.map Lib.itoa) [32] := by
  cases xs with
  | nil => rfl
  | cons x r => rw [List.map_cons, Lib.join_cons]; exact mv_fold r _
/-- The texts of numbers. -/
def dsL (xs : List Int) : List ByteArray := xs.map fun x => ⟨(Lib.itoa x).toArray⟩
theorem ds_len (xs : List Int) : (dsL xs).length = xs.length := by simp [dsL]
theorem ds_join (xs : List Int) : Lib.join ((dsL xs).map (·.data.toList)) [32] = mvL xs := by
  rw [mv_join]
  congr 1
  simp [dsL, Function.comp_def]
theorem ds_snoc {xs : List Int} {k : Nat} {x : Int} (h : xs[k]? = some x) : sv (dsL (xs.take (k + 1))) = sv (dsL (xs.take k)) ++ [.string ⟨(Lib.itoa x).toArray⟩] := by
  rw [List.take_add_one, h]
  simp [dsL, sv]
theorem alloc_texts {w : World} {k T : Nat} {arr : Array Value} {news : List Value} (hk : k = w.heap.size) (ha : arr.toList = news) : ∀ (j : Nat) u, news[j]? = some u → (w.alloc (.cells arr T)).cell? ((⟨k, 0, none⟩ : Addr).add j) = some u := by
  intro j u hu
  subst hk
  have e : ((⟨w.heap.size, 0, none⟩ : Addr).add j) = ⟨w.heap.size, j, none⟩ := by by_cases h : j = 0 <;> simp [Addr.add, h]
  rw [e]
  have hh := heap_alloc_new w (.cells arr T)
  simp only [World.cell?, hh]
  rw [← Array.getElem?_toList, ha]
  exact hu
structure TextRow (w : World) (B g cap n : Nat) (xs : List ByteArray) : Prop where
  lt : g < w.heap.size
  le : n ≤ cap
  cells : ∀ (j : Nat) x, xs[j]? = some x → w.cell? ⟨g, 0 + j, none⟩ = some (.string x)
theorem texts_own {w : World} {B e n : Nat} {v : Value} {xs : List ByteArray} (h : w.ownsRow B e 1 v n (sv xs)) (hn : 0 < n) : ∃ g cap, v = .slice (some ⟨g, 0, none⟩) n cap ∧ TextRow w B g cap n xs := by
  obtain ⟨_, ⟨hv, h0⟩ | ⟨g', cap', cur, hv, hb, hg, hc, hm, hs, ht⟩⟩ := h
  · omega
  · refine ⟨g', cap', hv, (Array.getElem?_eq_some_iff.1 hg).1, hc, fun j x hx => ?_⟩
    have h1 : (cur.toList.take (n * 1))[j]? = some (.string x) := by rw [ht]; simp [sv, hx]
    rw [List.getElem?_take] at h1
    rw [Nat.zero_add]
    split at h1
    · simpa [World.cell?, hg] using h1
    · cases h1
theorem own_mt {w w' : World} {B e n : Nat} {v : Value} {xs : List Value} (h : w.ownsRow B e 1 v n xs) (k : Below w.heap.size w w') : w'.ownsRow B e 1 v n xs := by
  obtain ⟨h1, h2 | ⟨g2, cap2, cur, hv2, hb2, hg, hr⟩⟩ := h
  · exact ⟨h1, .inl h2⟩
  · exact ⟨h1, .inr ⟨g2, cap2, cur, hv2, hb2, by rw [k.block g2 (Array.getElem?_eq_some_iff.1 hg).1]; exact hg, hr⟩⟩
end Go.Proofs.YtmoilphgibigkaaDoor
