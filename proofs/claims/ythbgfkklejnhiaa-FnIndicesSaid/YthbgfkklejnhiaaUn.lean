/- UnrankSeeds of both sides. No conditions. -/
import Derived.Test.YthbgfkklejnhiaaRk
namespace Go.Proofs.Ythbgfkklejnhiaa
open Go.Joins Go.ChangeShapes Go.WideShapes Go.ChangeAt Go.RowKit Go.Deep
set_option linter.unusedVariables false

/-- A row of the call's own and a code. -/
def RwP (L : List Int) (n : Nat) (cd : Int) (w : World) (e : Ending) (w' : World) : Prop :=
  ∃ a c b, e = .returned (.tuple #[.slice a n c, .int .i64 cd]) ∧ OutN w' w.heap.size a b L ∧ (L ≠ [] → b < w'.heap.size) ∧ Below w.heap.size w w'
theorem out_own {u : World} {lo n : Nat} {v : Value} {L : List Int} (h : u.ownsRow lo 2 1 v n (nvs L)) (hn : L.length = n) (hle : n ≤ 1000000) : ∃ a c b, v = .slice a n c ∧ OutN u lo a b L ∧ (L ≠ [] → b < u.heap.size) := by
  by_cases hne : L = []
  · subst hne
    obtain ⟨_, ⟨hv, h0⟩ | ⟨g, cap, cur, hv, hb, _⟩⟩ := h
    · subst h0
      exact ⟨none, 0, lo, hv, ⟨rowN_nil _ _, (fun _ _ e => by cases e), Nat.le_refl _, fun h => absurd rfl h⟩, (fun h => absurd rfl h)⟩
    · exact ⟨_, cap, g, hv, ⟨rowN_nil _ _, (fun _ _ e => by cases e; rfl), hb, fun h => absurd rfl h⟩, (fun h => absurd rfl h)⟩
  · obtain ⟨c, b, hv, ho, hlt, _⟩ := outN_own h hn (by omega) hne
    exact ⟨_, c, b, hv, ho, (fun _ => hlt)⟩
theorem rwp_nil (w w' : World) (cd : Int) (h : Below w.heap.size w w') : RwP [] 0 cd w (.returned (.tuple #[.slice none 0 0, .int .i64 cd])) w' :=
  ⟨none, 0, w.heap.size, rfl, ⟨rowN_nil _ _, (fun _ _ e => by cases e), Nat.le_refl _, fun h => absurd rfl h⟩, (fun h => absurd rfl h), h⟩
/-- The distribution with a rank. -/
def unK (s p r : Int) : Bool := cnK s p && (decide (0 ≤ r) && decide (r ≤ (cnt s.toNat p.toNat : Int) - 1))
def unL (s p r : Int) : List Int := if unK s p r then vals (unr (p - 1).toNat s.toNat r.toNat) else []
def unC (s p r : Int) : Int := if unK s p r then 0 else 2
theorem un_no {s p r : Int} (h : unK s p r = false) : unL s p r = [] ∧ unC s p r = 2 := by
  unfold unL unC
  rw [h]
  exact ⟨rfl, rfl⟩
theorem un_yes {S P R : Nat} (h : cnK (S : Int) ((P : Int) + 1) = true) (hr : R < cnt S (P + 1)) : unL (S : Int) ((P : Int) + 1) (R : Int) = vals (unr P S R) ∧ unC (S : Int) ((P : Int) + 1) (R : Int) = 0 := by
  have e : unK (S : Int) ((P : Int) + 1) (R : Int) = true := by
    unfold unK
    rw [h, Int.toNat_natCast, show ((P : Int) + 1).toNat = P + 1 by omega, decide_eq_true (by omega : (0 : Int) ≤ R), decide_eq_true (by omega : (R : Int) ≤ (cnt S (P + 1) : Int) - 1)]
    rfl
  unfold unL unC
  rw [e, Int.toNat_natCast, Int.toNat_natCast, show ((P : Int) + 1 - 1).toNat = P by omega]
  exact ⟨rfl, rfl⟩
theorem uk_next {p s j r0 r : Nat} {z : Nat × Nat} (h : z = (j + (uk p (s - j) r).1, (uk p (s - j) r).2)) (hj : j < s) (hr : cnt (s - j) p ≤ r) :
    z = ((j + 1) + (uk p (s - (j + 1)) (r - cnt (s - j) p)).1, (uk p (s - (j + 1)) (r - cnt (s - j) p)).2) := by
  obtain ⟨t, ht⟩ : ∃ t, s - j = t + 1 := ⟨s - j - 1, by omega⟩
  rw [h, ht, uk_go (by rw [← ht]; exact hr), show s - (j + 1) = t by omega]
  show (j + ((uk p t _).1 + 1), _) = _
  rw [show j + ((uk p t (r - cnt (t + 1) p)).1 + 1) = j + 1 + (uk p t (r - cnt (t + 1) p)).1 by omega]

set_option maxHeartbeats 4000000 in
set_option maxRecDepth 100000 in
theorem specAt_any (S P R : Nat) (p : Int) (w : World) (hp : p = (P : Int) + 1) (hS : S ≤ 96) (hP : P ≤ 15) (hf : cnt S (P + 1) ≤ 1000000000000000) (hr : R < cnt S (P + 1)) :
    Calls Try.prog 87 #[.int .i64 S, .int .i64 p, .int .i64 R] w (OwnP (vals (unr P S R)) (P + 1) w) := by
  subst hp
  obtain ⟨i0, hi, hz0, hz1, hz2⟩ := info_parts infoN
  have HC : Hid (∀ (s q : Nat) (u : World) (si pi : Int), s ≤ S → q + 1 ≤ P + 1 → si = (s : Int) → pi = (q : Int) + 1 → Calls Try.prog 59 #[.int .i64 si, .int .i64 pi] u fun e w' => e = .returned (.int .i64 (cnt s (q + 1) : Int)) ∧ Below u.heap.size u w') := Lib.hid (by
    rintro s q u si pi hs hq rfl rfl
    have hc := specN_any s q (s : Int) ((q : Int) + 1) u rfl rfl (by omega) (by omega)
    rwa [cap_lo (Nat.le_trans (cnt_both hs hq) hf)] at hc)
  have HF := Lib.hid hf
  have HR := Lib.hid hr
  clear hf hr
  go_enter Try.func87, Try.ntmps87
  go_wp2_with fail
  have hown := World.ownsRow_made (e := 2) (size := 1) w #[] 0 (Nat.le_refl _) (by decide) rfl
  have HO := Lib.hid hown
  have HB := Lib.hid (alo w (.cells #[] 2))
  generalize w.alloc (.cells #[] 2) = w1 at *
  clear hown
  go_loopw [0, 2, 7, 8] (fun sv rv ov qv wr => ∃ (acc : List Nat) (q s r : Nat), qv = .int .i64 (q : Int) ∧ sv = .int .i64 (s : Int) ∧ rv = .int .i64 (r : Int) ∧ wr.ownsRow w.heap.size 2 1 ov acc.length (nvs (vals acc)) ∧ acc ++ unr q s r = unr P S R ∧ r < cnt s (q + 1) ∧ s ≤ S ∧ acc.length + q = P ∧ Below w.heap.size w wr) (fun _ _ _ qv _ => (intOf qv).toNat)
  case atStart => exact ⟨[], P, S, R, by go_num, rfl, rfl, HO.out, rfl, HR.out, Nat.le_refl _, by simp, HB.out⟩
  case round =>
    obtain ⟨acc, q, s, r, rfl, rfl, rfl, hown, hacc, hr, hs, hq, hb⟩ := hrel
    have HO := Lib.hid hown
    have HA := Lib.hid hacc
    have HB := Lib.hid hb
    have HR := Lib.hid hr
    have hrM : r ≤ 1000000000000000 := by
      have h1 := cnt_both hs (show q + 1 ≤ P + 1 by omega)
      have h2 := HF.out
      omega
    have HQ := Lib.hid hq
    have hq15 : q ≤ 15 := by omega
    clear hown hacc hb hr hq
    rcases q with _ | q
    · clear HR
      go_wp2_with (at_builtin; refine wpList_append_own _ rfl _ _ 26 rfl w.heap.size 2 i0 (.int .i64 0) 1 8 Try.underlying26 hi hz0 hz1 hz2 rfl (by decide) _ acc.length (nvs (vals acc)) rfl (own_keep HO.out (alo _ _)) ⟨_, 0, none⟩ 1 1 (nvs [(s : Int)]) rfl (by simp [nvs]) (row_news (row_sng _ _ 2)) (nvs_cell _) (by have := HQ.out; unfold maxLen; omega) (by have := HQ.out; omega) (by have := HB.out.size; simp; omega) ?_; intro v1 w3 hown1 hgrow1 hnil1)
      go_ret
      refine ⟨_, rfl, ?_, ?_⟩
      · have e := HA.out
        have hl : acc.length + 1 = P + 1 := by have := HQ.out; omega
        rw [← e, ← hl]
        have e2 : nvs (vals (acc ++ unr 0 s r)) = nvs (vals acc) ++ nvs [(s : Int)] := by simp [unr, vals, nvs]
        rw [e2]
        exact hown1
      · exact (HB.out.trans ((alo _ _).mono HB.out.size)).grown hgrow1 (by have := HB.out.size; simp; omega) (fun k hk => (HO.out.lt k hk).1)
    · have q1 : (0 : Int) < (q : Int) + 1 := by omega
      rw [show ((q + 1 : Nat) : Int) = (q : Int) + 1 by omega]
      go_wp2_with fail
      go_loopw [2, 9] (fun rv kv wr => ∃ (j rj : Nat), j ≤ s ∧ kv = .int .i64 (j : Int) ∧ rv = .int .i64 (rj : Int) ∧ rj ≤ r ∧ rj < cnt (s - j) (q + 1 + 1) ∧ uk (q + 1) s r = (j + (uk (q + 1) (s - j) rj).1, (uk (q + 1) (s - j) rj).2) ∧ wr.ownsRow w.heap.size 2 1 u7 acc.length (nvs (vals acc)) ∧ Below w.heap.size w wr) (fun _ kv _ => s - (intOf kv).toNat)
      case atStart => exact ⟨0, r, Nat.zero_le _, rfl, rfl, Nat.le_refl _, HR.out, by simp, HO.out, HB.out⟩
      case round =>
        obtain ⟨j, rj, hj, rfl, rfl, hrj, hfit, huk, hown, hb⟩ := hrel
        have HO := Lib.hid hown
        have HB := Lib.hid hb
        have HU := Lib.hid huk
        have HFi := Lib.hid hfit
        have HCj := Lib.hid (fun (u : World) (si pi : Int) h1 h2 => HC.out (s - j) q u si pi (by omega) (by have := HQ.out; omega) h1 h2)
        obtain ⟨m, hm⟩ : ∃ m, m = cnt (s - j) (q + 1) := ⟨_, rfl⟩
        have hmM : m ≤ 1000000000000000 := by
          have h1 := cnt_both (show s - j ≤ S by omega) (show q + 1 ≤ P + 1 by have := HQ.out; omega)
          have h2 := HF.out
          omega
        rw [← hm] at HCj
        have HM := Lib.hid hm
        clear hown hb huk hfit hm
        by_cases hge : m ≤ rj
        · have hjs : j < s := by
            rcases Nat.lt_or_ge j s with h | h
            · exact h
            · exfalso
              have h1 := HFi.out
              have h2 := HM.out
              rw [show s - j = 0 by omega, cnt_zero] at h1 h2
              omega
          have q2 : (m : Int) ≤ (rj : Int) := by omega
          go_wp2_with (go_at_call 59; refine (HCj.out _ _ _ (by omega) (by omega)).mono ?_; rintro e w5 ⟨rfl, hb⟩; have HO := Lib.hid (own_keep HO.out (hb)); have HB := Lib.hid (HB.out.trans (hb.mono HB.out.size)); clear hb)
          go_roundw
          case rel => exact ⟨j + 1, rj - m, by omega, by go_num, by go_num, by omega, by
            have h1 := HFi.out
            have h2 := cnt_succ (s - (j + 1)) (q + 1)
            rw [show s - (j + 1) + 1 = s - j by omega, ← HM.out] at h2
            omega, by rw [HM.out]; exact uk_next (r0 := 0) HU.out hjs (by rw [← HM.out]; exact hge), HO.out, HB.out⟩
          case measure => simp [intOf]; omega
        · have q2 : ¬ ((m : Int) ≤ (rj : Int)) := by omega
          have hst := uk_stop (p := q + 1) (s := s - j) (r := rj) (by rw [← HM.out]; omega)
          have hz := HU.out
          rw [hst] at hz
          have HZ := Lib.hid hz
          have HJ := Lib.hid hj
          clear hst hz hge
          go_wp2_with (first | (go_at_call 59; refine (HCj.out _ _ _ (by omega) (by omega)).mono ?_; rintro e w5 ⟨rfl, hb⟩; have HO := Lib.hid (own_keep HO.out (hb)); have HB := Lib.hid (HB.out.trans (hb.mono HB.out.size)); clear hb) | (at_builtin; refine wpList_append_own _ rfl _ _ 26 rfl w.heap.size 2 i0 (.int .i64 0) 1 8 Try.underlying26 hi hz0 hz1 hz2 rfl (by decide) _ acc.length (nvs (vals acc)) rfl (own_keep HO.out (alo _ _)) ⟨_, 0, none⟩ 1 1 (nvs [(j : Int)]) rfl (by simp [nvs]) (row_news (row_sng _ _ 2)) (nvs_cell _) (by have := HQ.out; unfold maxLen; omega) (by have := HQ.out; omega) (by have := HB.out.size; simp; omega) ?_; intro v1 w3 hown1 hgrow1 hnil1))
          go_roundw
          case rel =>
            have hz := HZ.out
            refine ⟨acc ++ [j], q, s - j, rj, by go_num, by go_num, rfl, ?_, ?_, ?_, by omega, ?_, ?_⟩
            · have e2 : nvs (vals (acc ++ [j])) = nvs (vals acc) ++ nvs [(j : Int)] := by simp [vals, nvs]
              rw [e2, List.length_append]
              exact hown1
            · have e := HA.out
              rw [← e]
              show acc ++ [j] ++ unr q (s - j) rj = acc ++ ((uk (q + 1) s r).1 :: unr q (s - (uk (q + 1) s r).1) (uk (q + 1) s r).2)
              rw [hz]
              simp
            · have := HM.out; omega
            · have := HQ.out; simp; omega
            · exact (HB.out.trans ((alo _ _).mono HB.out.size)).grown hgrow1 (by have := HB.out.size; simp; omega) (fun k hk => (HO.out.lt k hk).1)
          case measure => simp [intOf]
/-- An array of numbers in a block. -/
def Arr (w : World) (G : Nat) (L : List Int) : Prop := G < w.heap.size ∧ (∀ i x, L[i]? = some x → w.cell? ⟨G, i, none⟩ = some (.int .i64 x)) ∧ ∀ o, w.frozen? ⟨G, o, none⟩ = false
theorem Arr.below {w u : World} {G : Nat} {L : List Int} (h : Arr w G L) (k : Below w.heap.size w u) : Arr u G L :=
  ⟨Nat.lt_of_lt_of_le h.1 k.size, fun i x hi => by rw [k.cell (p := ⟨G, i, none⟩) h.1]; exact h.2.1 i x hi, fun o => by rw [k.frozen (p := ⟨G, o, none⟩) h.1]; exact h.2.2 o⟩
theorem Arr.set {w : World} {G : Nat} {L : List Int} (h : Arr w G L) (i : Nat) (hi : i < L.length) (v : Int) : Arr (w.setCell ⟨G, i, none⟩ (.int .i64 v)) G (L.set i v) := by
  obtain ⟨h1, h2, h3⟩ := h
  refine ⟨by simpa using h1, fun j x hj => ?_, fun o => ?_⟩
  · rw [List.getElem?_set] at hj
    split at hj
    · rename_i e
      subst e
      cases hj
      exact World.cell?_setCell_same' _ _ _ (by rw [h2 i L[i] (List.getElem?_eq_getElem hi)]; rfl)
    · rename_i e
      rw [World.cell?_setCell_other (w := w) (a := ⟨G, i, none⟩) (b := ⟨G, j, none⟩) (h := by intro e'; apply e; simpa using e'.symm)]
      exact h2 j x hj
  · have := h3 o
    go_simp
theorem set_mid (A B : List Int) (x v : Int) : (A ++ x :: B).set A.length v = A ++ v :: B := by
  induction A with
  | nil => rfl
  | cons a A ih => show a :: (A ++ x :: B).set A.length v = _; rw [ih]; rfl
theorem Arr.out {w : World} {B G n : Nat} {L : List Int} (h : Arr w G L) (hn : L.length = n) (hl : n ≤ 1000000000000) (hB : B ≤ G) : OutN w B (some ⟨G, 0, none⟩) G L :=
  ⟨⟨by rw [hn]; exact hl, .inr ⟨G, 0, rfl, h.1, fun i x hi => by rw [Nat.zero_add]; exact h.2.1 i x hi⟩⟩, fun _ _ e => by cases e; rfl, hB, fun _ => ⟨h.1, h.2.2⟩⟩
theorem arr_made (w : World) (n : Nat) (e : TypeId) : Arr (w.alloc (.cells (madeCells #[.int .i64 0] n) e)) w.heap.size (List.replicate n 0) := by
  refine ⟨by simp, fun i x hi => ?_, fun o => by go_simp⟩
  rw [List.getElem?_replicate] at hi
  split at hi
  · rename_i h
    cases hi
    have := cell_made w n i h e
    rwa [Nat.zero_add] at this
  · cases hi
set_option maxHeartbeats 4000000 in
set_option maxRecDepth 100000 in
theorem implUn_yes (S P R : Nat) (w : World) (hS : S ≤ 96) (hP : P ≤ 15) (hf : cnt S (P + 1) ≤ 1000000000000000) (hr : R < cnt S (P + 1)) :
    Calls Try.prog 55 #[.int .i64 S, .int .i64 ((P : Int) + 1), .int .i64 R] w (RwP (vals (unr P S R)) (P + 1) 0 w) := by
  have hmk := run_make_row' (P := Try.prog) 26 2 (.int .i64 0) 8 Try.underlying26 infoN rfl .i64 .i64 (P + 1) (by omega) (by omega)
  rw [show ((P + 1 : Nat) : Int) = (P : Int) + 1 by omega] at hmk
  have HC : Hid (∀ (s q : Nat) (u : World) (si pi : Int), s ≤ S → q + 1 ≤ P + 1 → si = (s : Int) → pi = (q : Int) + 1 → Calls Try.prog 49 #[.int .i64 si, .int .i64 pi] u fun e w' => e = .returned (.tuple #[.int .i64 (cnt s (q + 1) : Int), .int .i64 0]) ∧ Below u.heap.size u w') := Lib.hid (by
    rintro s q u si pi hs hq rfl rfl
    have hc := implCnt_any (s : Int) ((q : Int) + 1) u
    obtain ⟨v0, c0⟩ := cn_fit (S := s) (P := q) (by omega) (by omega) (Nat.le_trans (cnt_both hs hq) hf)
    unfold CnP at hc
    rwa [v0, c0] at hc)
  have HF := Lib.hid hf
  have HR := Lib.hid hr
  have HC0 := Lib.hid (fun (u : World) => HC.out S P u S ((P : Int) + 1) (Nat.le_refl _) (Nat.le_refl _) rfl rfl)
  have g1 : (R : Int) < (cnt S (P + 1) : Int) := by omega
  have g2 : ¬ ((R : Int) < 0) := by omega
  have hRM : R ≤ 1000000000000000 := by omega
  generalize hM : cnt S (P + 1) = M at HC0 g1
  clear hf hr hM
  go_enter Try.func55, Try.ntmps55
  go_wp2_with (go_at_call 49; refine (HC0.out _).mono ?_; rintro e w1 ⟨rfl, hb⟩; have HB := Lib.hid hb; clear hb)
  have hA := arr_made w1 (P + 1) 2
  have hB2 := HB.out.trans ((alo w1 (.cells (madeCells #[.int .i64 0] (P + 1)) 2)).mono HB.out.size)
  have hG : w.heap.size ≤ w1.heap.size := HB.out.size
  generalize w1.alloc (.cells (madeCells #[.int .i64 0] (P + 1)) 2) = w2 at *
  generalize w1.heap.size = G at *
  clear hmk HB g1
  have HA := Lib.hid hA
  have HB := Lib.hid hB2
  clear hA hB2
  go_loopw [0, 2, 36] (fun sv rv iv wr => ∃ (acc : List Nat) (q s r : Nat), iv = .int .i64 (acc.length : Int) ∧ sv = .int .i64 (s : Int) ∧ rv = .int .i64 (r : Int) ∧ Arr wr G (vals acc ++ List.replicate (q + 1) 0) ∧ acc ++ unr q s r = unr P S R ∧ r < cnt s (q + 1) ∧ s ≤ S ∧ acc.length + q = P ∧ Below w.heap.size w wr) (fun _ _ iv _ => P - (intOf iv).toNat)
  case atStart => exact ⟨[], P, S, R, rfl, rfl, rfl, HA.out, rfl, HR.out, Nat.le_refl _, by simp, HB.out⟩
  case round =>
    obtain ⟨acc, q, s, r, rfl, rfl, rfl, harr, hacc, hr, hs, hq, hb⟩ := hrel
    have HA := Lib.hid harr
    have HE := Lib.hid hacc
    have HB := Lib.hid hb
    have HR := Lib.hid hr
    have HQ := Lib.hid hq
    have hrM : r ≤ 1000000000000000 := by
      have h1 := cnt_both hs (show q + 1 ≤ P + 1 by omega)
      have h2 := HF.out
      omega
    have hsl : s ≤ 96 := by omega
    have hal : acc.length ≤ 15 := by omega
    clear harr hacc hb hr hq
    rcases q with _ | q
    · have q1 : ¬ ((acc.length : Int) < (P : Int)) := by have := HQ.out; omega
      have hPa : P = acc.length := by have := HQ.out; omega
      obtain ⟨hG1, hG2, hG3⟩ := HA.out
      have y0 := hG2 acc.length 0 (by simp [vals])
      have f0 := hG3 acc.length
      have HS := Lib.hid (HA.out.set acc.length (by simp [vals]) (s : Int))
      have ep : (P : Int) = (acc.length : Int) := by omega
      rw [ep]
      have HEp := Lib.hid hPa
      have qq0 : (0 : Int) ≤ (acc.length : Int) := by omega
      have qq1 : (acc.length : Int) < (P : Int) + 1 := by omega
      clear hG2 hG3 hPa ep HR
      go_wp2_with fail
      go_ret2
      have e := HE.out
      refine ⟨some ⟨G, 0, none⟩, P + 1, G, rfl, ?_, fun _ => by simpa using hG1, HB.out.setCell (p := ⟨G, acc.length, none⟩) hG _⟩
      have e2 : (vals acc ++ List.replicate (0 + 1) 0).set acc.length (s : Int) = vals (unr P S R) := by
        rw [← e]
        have := set_mid (vals acc) [] 0 (s : Int)
        rw [vals_len] at this
        show (vals acc ++ [0]).set acc.length (s : Int) = vals (acc ++ [s])
        rw [this]
        simp [vals]
      have hS2 := HS.out
      rw [e2] at hS2
      exact Arr.out (n := P + 1) hS2 (by rw [vals_len, ← e, List.length_append]; have := HEp.out; simp only [unr, List.length_cons, List.length_nil]; omega) (by omega) hG
    · have q1 : (acc.length : Int) < (P : Int) := by have := HQ.out; omega
      have HCq := Lib.hid (fun (s' : Nat) (u : World) (si pi : Int) (h : s' ≤ S) h1 h2 => HC.out s' q u si pi h (by have := HQ.out; omega) h1 h2)
      have HP2 : Hid ((P : Int) - (acc.length : Int) = (q : Int) + 1) := Lib.hid (by have := HQ.out; omega)
      have qq0 : (0 : Int) ≤ (acc.length : Int) := by omega
      have qq1 : (acc.length : Int) < (P : Int) + 1 := by omega
      go_wp2_with (go_at_call 49; with_reducible refine (HCq.out s _ _ _ (by omega) rfl (by have := HP2.out; omega)).mono ?_; rintro e w5 ⟨rfl, hb⟩; have HA := Lib.hid (HA.out.below hb); have HB := Lib.hid (HB.out.trans (hb.mono HB.out.size)); clear hb)
      have HR0 := Lib.hid (show uk (q + 1) s r = (0 + (uk (q + 1) (s - 0) r).1, (uk (q + 1) (s - 0) r).2) by simp)
      go_loopw [0, 2, 13] (fun sv rv mv wr => ∃ (j rj : Nat), j ≤ s ∧ sv = .int .i64 ((s - j : Nat) : Int) ∧ rv = .int .i64 (rj : Int) ∧ mv = .int .i64 ((cnt (s - j) (q + 1) : Nat) : Int) ∧ rj ≤ r ∧ rj < cnt (s - j) (q + 1 + 1) ∧ uk (q + 1) s r = (j + (uk (q + 1) (s - j) rj).1, (uk (q + 1) (s - j) rj).2) ∧ Arr wr G (vals acc ++ (j : Int) :: List.replicate (q + 1) 0) ∧ Below w.heap.size w wr) (fun sv _ _ _ => (intOf sv).toNat)
      case atStart => exact ⟨0, r, Nat.zero_le _, rfl, rfl, rfl, Nat.le_refl _, HR.out, HR0.out, HA.out, HB.out⟩
      case round =>
        obtain ⟨j, rj, hj, rfl, rfl, rfl, hrj, hfit, huk, harr, hb⟩ := hrel
        have HA := Lib.hid harr
        have HB := Lib.hid hb
        have HU := Lib.hid huk
        have HFi := Lib.hid hfit
        obtain ⟨m, hm⟩ : ∃ m, m = cnt (s - j) (q + 1) := ⟨_, rfl⟩
        obtain ⟨t, ht⟩ : ∃ t, t = s - j := ⟨_, rfl⟩
        have hmM : m ≤ 1000000000000000 := by
          have h1 := cnt_both (show s - j ≤ S by omega) (show q + 1 ≤ P + 1 by have := HQ.out; omega)
          have h2 := HF.out
          omega
        have HM := Lib.hid hm
        have HT := Lib.hid ht
        rw [← hm, ← ht]
        have ht96 : t ≤ 96 := by omega
        obtain ⟨hG1, hG2, hG3⟩ := harr
        have y0 := hG2 acc.length j (by rw [List.getElem?_append_right (by rw [vals_len]; exact Nat.le_refl _), vals_len]; simp)
        have f0 := hG3 acc.length
        have HST := Lib.hid (HA.out.set acc.length (by simp [vals]) ((j : Int) + 1))
        clear hb huk hfit hm ht hG2 hG3
        by_cases hge : m ≤ rj
        · have hjs : j < s := by
            rcases Nat.lt_or_ge j s with h | h
            · exact h
            · exfalso
              have h1 := HFi.out
              have h2 := HM.out
              rw [show s - j = 0 by omega, cnt_zero] at h1 h2
              omega
          have q2 : (m : Int) ≤ (rj : Int) := by omega
          have ht1 : 1 ≤ t := by have := HT.out; omega
          have HCj := Lib.hid (fun (u : World) (si pi : Int) h1 h2 => HCq.out (s - (j + 1)) u si pi (by omega) h1 h2)
          go_wp2_with (go_at_call 49; with_reducible refine (HCj.out _ _ _ (by have := HT.out; omega) (by have := HP2.out; omega)).mono ?_; rintro e w5 ⟨rfl, hb⟩; have HB5 := Lib.hid hb; clear hb)
          go_roundw
          case rel =>
            refine ⟨j + 1, rj - m, by omega, by have := HT.out; go_num, by go_num, rfl, by omega, ?_, by rw [HM.out]; exact uk_next (r0 := 0) HU.out hjs (by rw [← HM.out]; exact hge), ?_, ?_⟩
            · have h1 := HFi.out
              have h2 := cnt_succ (s - (j + 1)) (q + 1)
              rw [show s - (j + 1) + 1 = s - j by omega, ← HM.out] at h2
              omega
            · have hA2 := HST.out
              have e := set_mid (vals acc) (List.replicate (q + 1) 0) (j : Int) ((j : Int) + 1)
              rw [vals_len] at e
              rw [e] at hA2
              exact hA2.below HB5.out
            · exact (HB.out.setCell (p := ⟨G, acc.length, none⟩) hG _).trans (HB5.out.mono (by have := HB.out.size; simpa using this))
          case measure => simp [intOf]; omega
        · have q2 : ¬ ((m : Int) ≤ (rj : Int)) := by omega
          have hst := uk_stop (p := q + 1) (s := s - j) (r := rj) (by rw [← HM.out]; omega)
          have hz := HU.out
          rw [hst] at hz
          have HZ := Lib.hid hz
          have HJ := Lib.hid hj
          clear hst hz
          go_wp2_with fail
          go_roundw
          case rel =>
            have hz := HZ.out
            refine ⟨.int .i64 (t : Int), .int .i64 (rj : Int), _, _, _, .int .i64 ((acc.length : Int) + 1), ⟨acc ++ [j], by rw [List.length_append]; go_num, q, t, rfl, rj, rfl, ?_, ?_, ?_, by have := HT.out; omega, by have := HQ.out; rw [List.length_append]; simp only [List.length_cons, List.length_nil]; omega, HB.out⟩, rfl, rfl, rfl, rfl, rfl, rfl⟩
            · have e2 : vals (acc ++ [j]) ++ List.replicate (q + 1) 0 = vals acc ++ (j : Int) :: List.replicate (q + 1) 0 := by simp [vals]
              rw [e2]
              exact HA.out
            · have e := HE.out
              rw [← e, HT.out]
              show acc ++ [j] ++ unr q (s - j) rj = acc ++ ((uk (q + 1) s r).1 :: unr q (s - (uk (q + 1) s r).1) (uk (q + 1) s r).2)
              rw [hz]
              simp
            · rw [HT.out, ← HM.out]; omega
          case measure => have := HQ.out; simp [intOf]; omega
theorem implUn_any (s p r : Int) (w : World) : Calls Try.prog 55 #[.int .i64 s, .int .i64 p, .int .i64 r] w (RwP (unL s p r) (unL s p r).length (unC s p r) w) := by
  have HC := Lib.hid (implCnt_any s p w)
  unfold CnP at HC
  rcases hk : cnK s p with _ | _
  · have H := un_no (s := s) (p := p) (r := r) (by unfold unK; rw [hk]; rfl)
    rw [H.1, H.2]
    rw [(cn_no hk).1, (cn_no hk).2] at HC
    clear H hk
    go_enter Try.func55, Try.ntmps55
    go_wp2_with (go_at_call 49; refine HC.out.mono ?_; rintro e w' ⟨rfl, hb⟩; have HB := Lib.hid hb; clear hb)
    go_ret2
    exact rwp_nil _ _ _ HB.out
  · obtain ⟨S, P, rfl, rfl, hS, hP, hf⟩ := cn_parts hk
    have hpos := cnt_pos S P
    by_cases hin : 0 ≤ r ∧ r < (cnt S (P + 1) : Int)
    · obtain ⟨R, rfl⟩ : ∃ R : Nat, r = (R : Int) := ⟨r.toNat, by omega⟩
      have hR : R < cnt S (P + 1) := by omega
      have H := un_yes hk hR
      rw [H.1, H.2, vals_len, (unr_is P S R hR).1]
      exact implUn_yes S P R w hS hP hf hR
    · have H := un_no (s := (S : Int)) (p := (P : Int) + 1) (r := r) (by
        unfold unK
        rw [hk, Int.toNat_natCast, show ((P : Int) + 1).toNat = P + 1 by omega]
        by_cases h0 : 0 ≤ r
        · rw [decide_eq_false (by omega : ¬ r ≤ (cnt S (P + 1) : Int) - 1)]; simp
        · rw [decide_eq_false h0]; rfl)
      rw [H.1, H.2]
      rw [(cn_val hk).1, (cn_val hk).2] at HC
      generalize cnt S (P + 1) = m at *
      clear H hk
      by_cases h0 : r < 0
      · clear hin
        go_enter Try.func55, Try.ntmps55
        go_wp2_with (go_at_call 49; refine HC.out.mono ?_; rintro e w' ⟨rfl, hb⟩; have HB := Lib.hid hb; clear hb)
        go_ret2
        exact rwp_nil _ _ _ HB.out
      · have h1 : (m : Int) ≤ r := by omega
        clear hin
        go_enter Try.func55, Try.ntmps55
        go_wp2_with (go_at_call 49; refine HC.out.mono ?_; rintro e w' ⟨rfl, hb⟩; have HB := Lib.hid hb; clear hb)
        go_ret2
        exact rwp_nil _ _ _ HB.out
end Go.Proofs.Ythbgfkklejnhiaa
