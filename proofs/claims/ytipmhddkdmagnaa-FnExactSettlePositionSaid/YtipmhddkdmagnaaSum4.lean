/- Sums over the pits: the program's and the reference's. No conditions. -/
import Derived.Test.YtipmhddkdmagnaaSpec4
import Derived.Test.YtipmhddkdmagnaaValid4
namespace Go.Proofs.Ytipmhddkdmagnaa
open Go.Joins Go.ChangeShapes Go.WideShapes Go.ChangeAt Go.RowKit Go.Deep
set_option linter.unusedVariables false

theorem posB_take {l : List Int} (h : posB l = true) (k : Nat) : posB (l.take k) = true := by
  unfold posB at h ⊢
  rw [List.all_eq_true] at h ⊢
  exact fun x hx => h x (List.mem_of_mem_take hx)
theorem tot_take_le {l : List Int} (h : posB l = true) (k : Nat) : 0 ≤ tot (l.take k) ∧ tot (l.take k) ≤ tot l := by
  have h1 := posB_tot (posB_take h k)
  have h2 := posB_tot (posB_drop h k)
  have h3 : tot (l.take k ++ l.drop k) = tot l := congrArg tot (List.take_append_drop _ _)
  rw [tot_app] at h3
  omega
set_option maxHeartbeats 1000000 in
theorem sumOf_any (a : Option Addr) (c n : Nat) (xs : List Int) (w : World) (hn : xs.length = n) (h : RowN w a xs) (hp : posB xs = true) (ht : tot xs ≤ 96) :
    Calls Try.prog 59 #[.slice a n c] w fun e w' => e = .returned (.int .i64 (tot xs)) ∧ w = w' := by
  have hl : n ≤ 1000000000000 := by rw [← hn]; exact h.1
  have Hn := Lib.hid hn
  have H := Lib.hid h
  have HP := Lib.hid hp
  have HT := Lib.hid ht
  clear hn h hp ht
  go_enter Try.func59, Try.ntmps59
  go_wp2
  go_loop [3, 8] (fun s i => ∃ (k : Nat) (t : Int), k ≤ n ∧ i = .int .i64 k ∧ s = .int .i64 t ∧ t = tot (xs.take k)) (fun _ i => n - (intOf i).toNat)
  case atStart => exact ⟨0, 0, Nat.zero_le _, rfl, rfl, rfl⟩
  case round =>
    obtain ⟨k, t, hk, rfl, rfl, ht⟩ := hrel
    have hb := tot_take_le HP.out k
    rw [← ht] at hb
    obtain ⟨b0, b1⟩ := hb
    have b2 := HT.out
    have b3 : t ≤ 96 := by omega
    have Ht := Lib.hid ht
    clear ht b1 b2
    by_cases hlt : k < n
    · obtain ⟨x, hx⟩ : ∃ x, xs[k]? = some x := ⟨xs[k]'(by rw [Hn.out]; exact hlt), List.getElem?_eq_getElem _⟩
      have hne : xs ≠ [] := by intro h; subst h; cases hx
      obtain ⟨g, o, rfl, l1, x1⟩ := H.out.2.resolve_left hne
      have y1 := x1 k x hx
      have x0 := posB_mem HP.out hx
      have x96 : x ≤ 96 := by
        have := posB_le HP.out x (List.mem_of_getElem? hx)
        have := HT.out
        omega
      have Hx := Lib.hid hx
      have q0 : (0 : Int) ≤ (k : Int) := by omega
      have q1 : (k : Int) < (n : Int) := by omega
      clear x1 hx hne
      go_wp2
      go_round
      case rel => exact ⟨k + 1, t + x, by omega, by go_num, by go_num, by rw [take_next Hx.out, tot_snoc, Ht.out]⟩
      case measure => simp [intOf]; omega
    · obtain rfl : k = n := by omega
      have e1 : xs.take k = xs := List.take_of_length_le (by rw [Hn.out]; exact Nat.le_refl _)
      have e2 : t = tot xs := by rw [Ht.out, e1]
      have E2 := Lib.hid e2
      clear e1 e2
      go_wp2
      go_ret
      exact ⟨by rw [E2.out]; rfl, rfl⟩

/-- The seeds in all pits. -/
def onV (k : Bool) (t : Int) : Int := if k then t else 0
def onC (k : Bool) : Int := if k then 0 else 1
theorem implOn_any (p s c l : Int) (st sk re fe ag : Bool) (p1 p2 : Option Addr) (pn1 pc1 pn2 pc2 : Nat) (pp : Int) (xs ys : List Int) (w : World) (h : PosR w p1 p2 pn1 pn2 xs ys) (k : Bool) (hk : okP (okR p s c l st ag) p pn1 pn2 pp xs ys = k) :
    Calls Try.prog 32 #[.agg #[.int .i64 p, .int .i64 s, .bool st, .bool sk, .bool re, .bool fe, .bool ag, .int .i64 c, .int .i64 l], .agg #[.slice p1 pn1 pc1, .slice p2 pn2 pc2, .int .i64 pp]] w fun e w' => e = .returned (.tuple #[.int .i64 (onV k (tot xs)), .int .i64 (onC k)]) ∧ Below w.heap.size w w' := by
  have H := Lib.hid h
  have HS := Lib.hid (rp_new p s c l st sk re fe ag p1 p2 pn1 pc1 pn2 pc2 pp w 32 34)
  have Hk := Lib.hid hk
  clear h hk
  cases k
  · go_enter Try.func32, Try.ntmps32
    go_wp2_with fail
    refine (implValid_any p s c l st sk re fe ag p1 p2 pn1 pc1 pn2 pc2 pp xs ys _ (H.out.below HS.out.2.2)).mono ?_
    rintro e u ⟨rfl, hb⟩
    rw [Hk.out]
    have HB := Lib.hid (HS.out.below hb).2.2
    clear hb
    go_wp2_with fail
    go_ret2
    exact ⟨rfl, HB.out⟩
  · obtain ⟨-, -, -, -, hs⟩ := okP_parts Hk.out
    obtain ⟨h1, h2, h3⟩ := seedB_parts hs
    have h4 := posB_tot h2
    have H1 := Lib.hid h1
    have H3 : Hid (tot xs ≤ 96) := Lib.hid (by omega)
    clear hs h1 h2 h3 h4
    go_enter Try.func32, Try.ntmps32
    go_wp2_with fail
    refine (implValid_any p s c l st sk re fe ag p1 p2 pn1 pc1 pn2 pc2 pp xs ys _ (H.out.below HS.out.2.2)).mono ?_
    rintro e u ⟨rfl, hb⟩
    rw [Hk.out]
    have HSu := Lib.hid (HS.out.below hb)
    clear hb
    obtain ⟨_, ⟨_, g0, g1, g2⟩, hb⟩ := HSu.out
    have HB := Lib.hid hb
    have HR := Lib.hid (H.out.below hb)
    clear hb
    go_wp2_with fail
    refine (sumOf_any p1 pc1 pn1 xs _ HR.out.l1 HR.out.r1 H1.out H3.out).mono ?_
    rintro e u ⟨rfl, rfl⟩
    go_wp2_with fail
    go_ret2
    exact ⟨rfl, HB.out⟩
end Go.Proofs.Ytipmhddkdmagnaa
