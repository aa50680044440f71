/- Reading the decimal form of a number: plain facts. No conditions. -/
import Derived.Test.YtpmcfeokcagjdaaDoorDec
import Derived.Lib.AtoiTie
import Derived.Lib.ParseIntBTie
import Derived.Lib.ItoaMem
import Derived.Lib.ItoaLen
namespace Go.Proofs.YtpmcfeokcagjdaaDoor
open Go.Joins Go.ChangeShapes Go.WideShapes Go.ChangeAt Go.RowKit Go.Deep
set_option linter.unusedVariables false

theorem decFrom_append : ∀ (l : List UInt8) (acc m : Nat) (b : UInt8) (d : Nat), Lib.decFrom acc l = some m → Lib.digitVal b = some d → Lib.decFrom acc (l ++ [b]) = some (m * 10 + d)
  | [], acc, m, b, d, h, hb => by
    simp only [Lib.decFrom, Option.some.injEq] at h
    subst h
    simp [Lib.decFrom, hb]
  | c :: r, acc, m, b, d, h, hb => by
    simp only [Lib.decFrom, List.cons_append] at h ⊢
    cases hc : Lib.digitVal c with
    | none => rw [hc] at h; cases h
    | some x =>
      rw [hc] at h
      exact decFrom_append r _ m b d h hb
theorem digit_val (r : Nat) (h : r < 10) : Lib.digitVal (UInt8.ofNat (48 + r)) = some r := by
  have e : (UInt8.ofNat (48 + r)).toNat = 48 + r := by rw [UInt8.toNat_ofNat']; omega
  unfold Lib.digitVal
  rw [e, if_pos (by omega)]
  congr 1
  omega
theorem dec_decFrom (m : Nat) : Lib.decFrom 0 (Lib.decDigits m) = some m := by
  induction m using Nat.strongRecOn with
  | ind m ih =>
    rw [Lib.decDigits]
    split
    · rename_i h
      have := decFrom_append [] 0 0 _ m rfl (digit_val m h)
      simpa only [List.nil_append, Nat.zero_mul, Nat.zero_add] using this
    · rename_i h
      rw [decFrom_append _ 0 (m / 10) _ (m % 10) (ih _ (by omega)) (digit_val _ (by omega))]
      congr 1
      omega
theorem dec_digits18 (m k : Nat) (h : m < 10 ^ (k + 1)) : (Lib.decDigits m).length ≤ k + 1 := by
  induction k generalizing m with
  | zero =>
    rw [Lib.decDigits, dif_pos (by simpa using h)]
    simp
  | succ k ih =>
    rw [Lib.decDigits]
    split
    · simp
    · rw [List.length_append]
      have : m / 10 < 10 ^ (k + 1) := by
        rw [Nat.pow_succ] at h
        omega
      have := ih _ this
      simp
      omega
theorem dec_head (m : Nat) : ∃ c r, Lib.decDigits m = c :: r ∧ 48 ≤ c.toNat ∧ c.toNat ≤ 57 := by
  induction m using Nat.strongRecOn with
  | ind m ih =>
    rw [Lib.decDigits]
    split
    · rename_i h
      refine ⟨_, [], rfl, ?_⟩
      rw [UInt8.toNat_ofNat']
      omega
    · obtain ⟨c, r, e, h⟩ := ih (m / 10) (by omega)
      exact ⟨c, r ++ [UInt8.ofNat (48 + m % 10)], by rw [e]; rfl, h⟩

def Small18 (n : Int) : Prop := -1000000000000000000 < n ∧ n < 1000000000000000000
/-- Reading back what was written. -/
theorem parse_itoa (n : Int) (h : Small18 n) : Lib.parseIntB 64 (Lib.itoa n) = .ok n := by
  unfold Small18 at h
  rw [Lib.parseIntB_64]
  obtain ⟨c, r, e, hc⟩ := dec_head n.natAbs
  have hne : Lib.decDigits n.natAbs ≠ [] := by rw [e]; exact List.cons_ne_nil _ _
  have hlen : (Lib.decDigits n.natAbs).length ≤ 18 := dec_digits18 _ 17 (by show n.natAbs < 1000000000000000000; omega)
  have hN : Lib.decNat (Lib.decDigits n.natAbs) = some n.natAbs := by
    unfold Lib.decNat
    rw [if_neg (by simpa using hne), dec_decFrom]
  unfold Lib.itoa
  by_cases hn : n < 0
  · rw [if_pos hn, Lib.atoiAll_minus, Lib.signed_short hlen, hN]
    show Lib.NumEnd.ok (-(n.natAbs : Int)) = _
    congr 1
    omega
  · rw [if_neg hn, show n.toNat = n.natAbs by omega]
    have h1 : Lib.atoiAll (Lib.decDigits n.natAbs) = Lib.signless (Lib.parseMag (Lib.decDigits n.natAbs)) := by
      rw [e]
      exact Lib.atoiAll_plain c r (by omega) (by omega)
    rw [h1, Lib.signless_short hlen, hN]
    show Lib.NumEnd.ok ((n.natAbs : Int)) = _
    congr 1
    omega

/-- There is a number with the form l, and which. -/
def Reads (l : List UInt8) (n : Int) : Prop := Small18 n ∧ Lib.itoa n = l
theorem reads_one {l : List UInt8} {n m : Int} (h : Reads l n) (k : Reads l m) : n = m := by
  have h1 := parse_itoa n h.1
  have h2 := parse_itoa m k.1
  rw [h.2] at h1
  rw [k.2, h1] at h2
  cases h2
  rfl
end Go.Proofs.YtpmcfeokcagjdaaDoor
