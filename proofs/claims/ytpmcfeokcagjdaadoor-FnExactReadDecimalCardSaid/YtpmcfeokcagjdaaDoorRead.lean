/- ReadDecimal of the reference: it gives the number whose decimal form is the text. No conditions. -/
import Derived.Test.YtpmcfeokcagjdaaDoorReadR
import Derived.Lib.ConvBytes
import Derived.WalkSpells
namespace Go.Proofs.YtpmcfeokcagjdaaDoor
open Go.Joins Go.ChangeShapes Go.WideShapes Go.ChangeAt Go.RowKit Go.Deep
set_option linter.unusedVariables false

theorem digit_any (c : Int) (w : World) (b : Bool) (h : (decide (48 ≤ c) && decide (c ≤ 57)) = b) :
    Calls Tryd.prog 18 #[.int .u8 c] w fun e w' => e = .returned (.bool b) ∧ w = w' := by
  subst h
  go_enter Tryd.func18, Tryd.ntmps18
  go_wp2
  all_goals
    go_ret
    exact ⟨by simp [*]; try omega, rfl⟩

/-- What reading the text l gives. -/
def ReadV (l : List UInt8) (v : Int) (b : Bool) : Prop := (b = true ∧ Reads l v) ∨ (b = false ∧ v = 0 ∧ ∀ n, ¬ Reads l n)
theorem fin_true {l : List UInt8} {v n : Int} {b : Bool} (h : ReadV l v b) (k : Reads l n) : v = n ∧ b = true := by
  rcases h with ⟨hb, h⟩ | ⟨_, _, h⟩
  · exact ⟨reads_one h k, hb⟩
  · exact absurd k (h n)
theorem fin_false {l : List UInt8} {v : Int} {b : Bool} (h : ReadV l v b) (k : ∀ n, ¬ Reads l n) : v = 0 ∧ b = false := by
  rcases h with ⟨_, h⟩ | ⟨hb, hv, _⟩
  · exact absurd h (k v)
  · exact ⟨hv, hb⟩
theorem reads_neg {TL : List UInt8} {v : Int} (h : Reads (45 :: TL) v) : v < 0 ∧ Lib.decDigits v.natAbs = TL := by
  obtain ⟨_, h⟩ := h
  unfold Lib.itoa at h
  split at h
  · rename_i hn
    exact ⟨hn, (List.cons.inj h).2⟩
  · obtain ⟨c, r, e, hc⟩ := dec_head v.toNat
    rw [e] at h
    have := (List.cons.inj h).1
    subst this
    exact absurd hc.1 (by decide)
theorem reads_pos {l : List UInt8} {v : Int} (hl : ∀ c r, l = c :: r → c.toNat ≠ 45) (h : Reads l v) : 0 ≤ v ∧ Lib.decDigits v.natAbs = l := by
  obtain ⟨_, h⟩ := h
  unfold Lib.itoa at h
  split at h
  · exact absurd rfl (hl _ _ h.symm)
  · rename_i hn
    exact ⟨by omega, by rw [show v.natAbs = v.toNat by omega]; exact h⟩
/-- The text without its sign, and its sign. -/
structure Parts (l TL : List UInt8) (neg : Bool) : Prop where
  digits : ∀ v, Reads l v → Lib.decDigits v.natAbs = TL ∧ (if neg then v < 0 else 0 ≤ v)
theorem parts_neg (TL : List UInt8) : Parts (45 :: TL) TL true := ⟨fun v h => ⟨(reads_neg h).2, (reads_neg h).1⟩⟩
theorem parts_pos {l : List UInt8} (hl : ∀ c r, l = c :: r → c.toNat ≠ 45) : Parts l l false := ⟨fun v h => ⟨(reads_pos hl h).2, (reads_pos hl h).1⟩⟩
theorem no_len {l TL : List UInt8} {neg : Bool} (hp : Parts l TL neg) (h : ¬ (1 ≤ TL.length ∧ TL.length ≤ 18)) : ∀ n, ¬ Reads l n := fun n k => h (by
  have h1 := (hp.digits n k).1
  obtain ⟨c, r, e, _⟩ := dec_head n.natAbs
  have h2 : (Lib.decDigits n.natAbs).length ≤ 18 := dec_digits18 _ 17 (by have := k.1; unfold Small18 at this; show n.natAbs < 1000000000000000000; omega)
  rw [h1] at h2 e
  exact ⟨by rw [e]; simp, h2⟩)
theorem no_digit {l TL : List UInt8} {neg : Bool} (hp : Parts l TL neg) {k : Nat} {c : UInt8} (hk : TL[k]? = some c) (hc : ¬ (48 ≤ c.toNat ∧ c.toNat ≤ 57)) : ∀ n, ¬ Reads l n := fun n h => hc (by
  have h1 := (hp.digits n h).1
  obtain ⟨d, hd⟩ := Lib.digit_of_decFrom TL 0 n.natAbs (by rw [← h1]; exact dec_decFrom _) k c hk
  have := Lib.digitVal_eq hd
  omega)
theorem no_other {l TL : List UInt8} {neg : Bool} (hp : Parts l TL neg) {m : Nat} (hm : Lib.decFrom 0 TL = some m) (hne : Lib.itoa (if neg then -(m : Int) else m) ≠ l) : ∀ n, ¬ Reads l n := fun n h => hne (by
  obtain ⟨h1, h2⟩ := hp.digits n h
  have h3 := dec_decFrom n.natAbs
  rw [h1, hm] at h3
  have h4 : m = n.natAbs := Option.some.inj h3
  rw [← h.2]
  congr 1
  cases neg
  · simp at h2 ⊢; omega
  · simp at h2 ⊢; omega)
theorem yes_one {l TL : List UInt8} {neg : Bool} {m : Nat} (hl : TL.length ≤ 18) (hm : Lib.decFrom 0 TL = some m) (he : Lib.itoa (if neg then -(m : Int) else m) = l) : Reads l (if neg then -(m : Int) else m) := by
  have := Lib.decFrom_lt18 hm hl
  refine ⟨?_, he⟩
  unfold Small18
  cases neg
  · simp; omega
  · simp; omega
theorem bytes_ext {a b : ByteArray} (h : a.data.toList = b.data.toList) : a = b := by
  cases a; cases b
  congr 1
  exact Array.toList_inj.1 h

theorem tail_45 (s : ByteArray) (hp : 0 < s.size) (h : ((s[0]'hp).toNat : Int) = 45) : s.data.toList = 45 :: (s.extract 1 s.size).data.toList := by
  have e2 : s[0]'hp = 45 := UInt8.toNat_inj.1 (by show (s[0]'hp).toNat = 45; omega)
  have e4 : s.data.toList[0]? = some 45 := by
    rw [Array.getElem?_toList, ← e2]
    exact Array.getElem?_eq_getElem hp
  have e5 : s.data.toList = 45 :: s.data.toList.drop 1 := by
    cases hl : s.data.toList with
    | nil => rw [hl] at e4; cases e4
    | cons c r => rw [hl] at e4; cases e4; rfl
  have e6 : (s.extract 1 s.size).data.toList = s.data.toList.drop 1 := by
    have hsz : s.data.toList.length = s.size := by simp only [Array.length_toList]; rfl
    rw [ByteArray.data_extract, Array.toList_extract]
    show List.take (s.size - 1) (List.drop 1 s.data.toList) = _
    rw [List.take_of_length_le (by rw [List.length_drop, hsz]; exact Nat.le_refl _)]
  rw [e6]
  exact e5
/-- The number that the first k digits spell. -/
def ReadTo (l : List UInt8) (k m : Nat) : Prop := Lib.decFrom 0 (l.take k) = some m
theorem read_0 (l : List UInt8) : ReadTo l 0 0 := rfl
theorem read_succ {l : List UInt8} {k m : Nat} {c : UInt8} (h : ReadTo l k m) (hc : l[k]? = some c) (hd : 48 ≤ c.toNat ∧ c.toNat ≤ 57) : ReadTo l (k + 1) (m * 10 + (c.toNat - 48)) :=
  Lib.decFrom_take l k 0 m c _ h hc (by unfold Lib.digitVal; rw [if_pos hd])
theorem read_lt {l : List UInt8} {k m : Nat} (h : ReadTo l k m) (hk : k ≤ 17) : m < 100000000000000000 := Lib.decFrom_take_lt h hk
theorem read_all {l : List UInt8} {k m : Nat} (h : ReadTo l k m) (hk : l.length ≤ k) : Lib.decFrom 0 l = some m := by
  unfold ReadTo at h
  rwa [List.take_of_length_le hk] at h

set_option maxHeartbeats 8000000 in
theorem num_any (s : ByteArray) (hs : s.size ≤ 1048576) (v : Int) (b : Bool) (hv : ReadV s.data.toList v b) (w : World) :
    Calls Tryd.prog 15 #[.string s] w fun e w' => e = .returned (.tuple #[.int .i64 v, .bool b]) ∧ Below w.heap.size w w' := by
  have Hv := Lib.hid hv
  clear hv
  by_cases h0 : s.size = 0
  · obtain rfl : s = ⟨#[]⟩ := by
      obtain ⟨d⟩ := s
      simp [ByteArray.size] at h0
      simp [h0]
    obtain ⟨rfl, rfl⟩ := fin_false Hv.out (no_len (parts_pos (fun c r h => by cases h)) (by decide))
    go_enter Tryd.func15, Tryd.ntmps15
    go_wp2
    go_ret2
    exact ⟨rfl, Below.refl _ _⟩
  · have hp : 0 < s.size := by omega
    have hne : s.toList.isEmpty = false := by
      rw [List.isEmpty_eq_false_iff]
      intro h
      apply h0
      have := congrArg List.length h
      simpa [ByteArray.toList_eq] using this
    by_cases hm : (((s[0]'hp).toNat : Int) == 45) = true
    · have hT : s.data.toList = 45 :: (s.extract 1 s.size).data.toList := tail_45 s hp (by simpa using hm)
      have hP : Parts s.data.toList (s.extract 1 s.size).data.toList true := by rw [hT]; exact parts_neg _
      have hsz : (s.extract 1 s.size).size = s.size - 1 := by simp
      by_cases hlen : 1 ≤ s.size - 1 ∧ s.size - 1 ≤ 18
      rotate_left
      · obtain ⟨rfl, rfl⟩ := fin_false Hv.out (no_len hP (by simp only [Array.length_toList]; rw [show (s.extract 1 s.size).data.size = s.size - 1 from hsz]; exact hlen))
        clear hT hP hsz
        by_cases hl1 : s.size - 1 < 1
        all_goals
          go_enter Tryd.func15, Tryd.ntmps15
          go_wp2
          go_ret2
          exact ⟨rfl, Below.refl _ _⟩
      obtain ⟨hl1, hl2⟩ := hlen
      have HT := Lib.hid hT
      have HP := Lib.hid hP
      have Hz := Lib.hid hsz
      clear hT hP hsz
      go_enter Tryd.func15, Tryd.ntmps15
      go_wp2_with fail
      have hT1 : 1 ≤ (s.extract 1 s.size).size := by rw [Hz.out]; exact hl1
      have hT2 : (s.extract 1 s.size).size ≤ 18 := by rw [Hz.out]; exact hl2
      have hT3 : (s.extract 1 s.size).size < s.size := by rw [Hz.out]; omega
      have HP2 := Lib.hid HP.out
      clear HT HP Hz
      generalize s.extract 1 s.size = tx at *
      go_loop [5, 6] (fun q i => ∃ k m : Nat, k ≤ tx.size ∧ i = .int .i64 k ∧ q = .int .i64 m ∧ ReadTo tx.data.toList k m) (fun _ i => tx.size - (intOf i).toNat)
      case atStart => exact ⟨0, 0, Nat.zero_le _, rfl, rfl, read_0 _⟩
      case round =>
        obtain ⟨k, m, hk, rfl, rfl, hr⟩ := hrel
        have HR := Lib.hid hr
        clear hr
        by_cases hlt : k < tx.size
        · have hat : tx.data.toList[k]? = some (tx[k]'hlt) := by
            rw [Array.getElem?_toList]
            exact Array.getElem?_eq_getElem hlt
          obtain ⟨c, hc⟩ : ∃ c, tx[k]'hlt = c := ⟨_, rfl⟩
          have hm18 := read_lt HR.out (by omega : k ≤ 17)
          have Hat := Lib.hid hat
          have Hc := Lib.hid hc
          by_cases hd : 48 ≤ c.toNat ∧ c.toNat ≤ 57
          · have e1 : (decide ((48 : Int) ≤ ((tx[k]'hlt).toNat : Int)) && decide (((tx[k]'hlt).toNat : Int) ≤ 57)) = true := by rw [hc]; simp; omega
            have E1 := Lib.hid e1
            have hg1 : (48 : Int) ≤ ((tx[k]'hlt).toNat : Int) := by rw [hc]; omega
            have hg2 : ((tx[k]'hlt).toNat : Int) ≤ 57 := by rw [hc]; omega
            have HD := Lib.hid hd
            clear e1 hat hc hd
            go_wp2_with (go_at_call 18; refine (digit_any _ _ true E1.out).mono ?_; rintro e w' ⟨rfl, rfl⟩)
            go_round
            case rel => exact ⟨k + 1, m * 10 + (c.toNat - 48), by omega, by go_num, by (congr 1; rw [Hc.out]; have := HD.out; omega), read_succ HR.out (by rw [Hat.out, Hc.out]) HD.out⟩
            case measure => simp [intOf]; omega
          · have e1 : (decide ((48 : Int) ≤ ((tx[k]'hlt).toNat : Int)) && decide (((tx[k]'hlt).toNat : Int) ≤ 57)) = false := by rw [hc]; simp; omega
            have E1 := Lib.hid e1
            obtain ⟨rfl, rfl⟩ := fin_false Hv.out (no_digit HP2.out (by rw [hat, hc]) hd)
            clear e1 hat hc hd
            go_wp2_with (go_at_call 18; refine (digit_any _ _ false E1.out).mono ?_; rintro e w' ⟨rfl, rfl⟩)
            go_ret2
            exact ⟨rfl, Below.refl _ _⟩
        · have hall : Lib.decFrom 0 tx.data.toList = some m := read_all HR.out (by simp only [Array.length_toList]; show tx.size ≤ k; omega)
          have hm18 := Lib.decFrom_lt18 hall (by simp only [Array.length_toList]; exact hT2)
          have HA := Lib.hid hall
          clear hall
          go_wp2_with fail
          refine (dec_any (-(m : Int)) (by unfold I64; omega) _).mono ?_
          rintro e w1 ⟨rfl, hb1⟩
          by_cases he : Lib.itoa (-(m : Int)) = s.data.toList
          · have hA : (⟨(Lib.itoa (-(m : Int))).toArray⟩ : ByteArray) = s := bytes_ext (by rw [he])
            obtain ⟨rfl, rfl⟩ := fin_true Hv.out (yes_one (neg := true) (by simp only [Array.length_toList]; exact hT2) HA.out he)
            rw [hA]
            clear hA he
            go_wp2_with fail
            go_ret2
            exact ⟨rfl, hb1⟩
          · obtain ⟨A, hA⟩ : ∃ A : ByteArray, (⟨(Lib.itoa (-(m : Int))).toArray⟩ : ByteArray) = A := ⟨_, rfl⟩
            have hne2 : (A.toList == s.toList) = false := by
              rw [beq_eq_false_iff_ne]
              intro h
              apply he
              rw [ByteArray.toList_eq, ByteArray.toList_eq] at h
              rw [← h, ← hA]
            obtain ⟨rfl, rfl⟩ := fin_false Hv.out (no_other (neg := true) HP2.out HA.out he)
            rw [hA]
            clear hA he
            go_wp2_with fail
            go_ret2
            exact ⟨rfl, hb1⟩
    · have hm2 : (((s[0]'hp).toNat : Int) == 45) = false := by simpa using hm
      have hP : Parts s.data.toList s.data.toList false := parts_pos (fun c r h => by
        intro e
        apply hm
        have e1 : s[0]'hp = c := by
          have : s.data.toList[0]? = some c := by rw [h]; rfl
          obtain ⟨d⟩ := s
          simp only [Array.getElem?_toList] at this
          exact (Array.getElem?_eq_some_iff.1 this).2
        rw [e1]
        simp [e])
      clear hm
      have HP2 := Lib.hid hP
      by_cases hlen : s.size ≤ 18
      rotate_left
      · obtain ⟨rfl, rfl⟩ := fin_false Hv.out (no_len hP (by simp only [Array.length_toList]; show ¬ (1 ≤ s.size ∧ s.size ≤ 18); omega))
        clear hP HP2
        go_enter Tryd.func15, Tryd.ntmps15
        go_wp2
        go_ret2
        exact ⟨rfl, Below.refl _ _⟩
      clear hP
      have hT1 : 1 ≤ s.size := by omega
      have hT2 : s.size ≤ 18 := hlen
      go_enter Tryd.func15, Tryd.ntmps15
      go_wp2_with fail
      go_loop [5, 6] (fun q i => ∃ k m : Nat, k ≤ s.size ∧ i = .int .i64 k ∧ q = .int .i64 m ∧ ReadTo s.data.toList k m) (fun _ i => s.size - (intOf i).toNat)
      case atStart => exact ⟨0, 0, Nat.zero_le _, rfl, rfl, read_0 _⟩
      case round =>
        obtain ⟨k, m, hk, rfl, rfl, hr⟩ := hrel
        have HR := Lib.hid hr
        clear hr
        by_cases hlt : k < s.size
        · have hat : s.data.toList[k]? = some (s[k]'hlt) := by
            rw [Array.getElem?_toList]
            exact Array.getElem?_eq_getElem hlt
          obtain ⟨c, hc⟩ : ∃ c, s[k]'hlt = c := ⟨_, rfl⟩
          have hm18 := read_lt HR.out (by omega : k ≤ 17)
          have Hat := Lib.hid hat
          have Hc := Lib.hid hc
          by_cases hd : 48 ≤ c.toNat ∧ c.toNat ≤ 57
          · have e1 : (decide ((48 : Int) ≤ ((s[k]'hlt).toNat : Int)) && decide (((s[k]'hlt).toNat : Int) ≤ 57)) = true := by rw [hc]; simp; omega
            have E1 := Lib.hid e1
            have hg1 : (48 : Int) ≤ ((s[k]'hlt).toNat : Int) := by rw [hc]; omega
            have hg2 : ((s[k]'hlt).toNat : Int) ≤ 57 := by rw [hc]; omega
            have HD := Lib.hid hd
            clear e1 hat hc hd
            go_wp2_with (go_at_call 18; refine (digit_any _ _ true E1.out).mono ?_; rintro e w' ⟨rfl, rfl⟩)
            go_round
            case rel => exact ⟨k + 1, m * 10 + (c.toNat - 48), by omega, by go_num, by (congr 1; rw [Hc.out]; have := HD.out; omega), read_succ HR.out (by rw [Hat.out, Hc.out]) HD.out⟩
            case measure => simp [intOf]; omega
          · have e1 : (decide ((48 : Int) ≤ ((s[k]'hlt).toNat : Int)) && decide (((s[k]'hlt).toNat : Int) ≤ 57)) = false := by rw [hc]; simp; omega
            have E1 := Lib.hid e1
            obtain ⟨rfl, rfl⟩ := fin_false Hv.out (no_digit HP2.out (by rw [hat, hc]) hd)
            clear e1 hat hc hd
            go_wp2_with (go_at_call 18; refine (digit_any _ _ false E1.out).mono ?_; rintro e w' ⟨rfl, rfl⟩)
            go_ret2
            exact ⟨rfl, Below.refl _ _⟩
        · have hall : Lib.decFrom 0 s.data.toList = some m := read_all HR.out (by simp only [Array.length_toList]; show s.size ≤ k; omega)
          have hm18 := Lib.decFrom_lt18 hall (by simp only [Array.length_toList]; exact hT2)
          have HA := Lib.hid hall
          clear hall
          go_wp2_with fail
          refine (dec_any ((m : Int)) (by unfold I64; omega) _).mono ?_
          rintro e w1 ⟨rfl, hb1⟩
          by_cases he : Lib.itoa ((m : Int)) = s.data.toList
          · have hA : (⟨(Lib.itoa ((m : Int))).toArray⟩ : ByteArray) = s := bytes_ext (by rw [he])
            obtain ⟨rfl, rfl⟩ := fin_true Hv.out (yes_one (neg := false) (by simp only [Array.length_toList]; exact hT2) HA.out he)
            rw [hA]
            clear hA he
            go_wp2_with fail
            go_ret2
            exact ⟨rfl, hb1⟩
          · obtain ⟨A, hA⟩ : ∃ A : ByteArray, (⟨(Lib.itoa ((m : Int))).toArray⟩ : ByteArray) = A := ⟨_, rfl⟩
            have hne2 : (A.toList == s.toList) = false := by
              rw [beq_eq_false_iff_ne]
              intro h
              apply he
              rw [ByteArray.toList_eq, ByteArray.toList_eq] at h
              rw [← h, ← hA]
            obtain ⟨rfl, rfl⟩ := fin_false Hv.out (no_other (neg := false) HP2.out HA.out he)
            rw [hA]
            clear hA he
            go_wp2_with fail
            go_ret2
            exact ⟨rfl, hb1⟩
end Go.Proofs.YtpmcfeokcagjdaaDoor
