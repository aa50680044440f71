/- What the source of choices of the reference (l00Src) does: each step gives a number in its range, and writes into the source alone. No conditions. -/
import Derived.Test.YtkfflhhnaohhaaaBut
import Derived.Deep.QuietTactic
import Derived.BigQuiet
namespace Go.Proofs.Ytkfflhhnaohhaaa
open Go.Joins Go.ChangeShapes Go.WideShapes Go.ChangeAt Go.RowKit Go.Deep
set_option linter.unusedVariables false

/-- The source at block b: what it reads from, where it stands, its seed. -/
structure SrcAt (w : World) (b : Nat) (a : Option Addr) (len cap : Nat) (i : Nat) (u : Int) : Prop where
  lt : b < w.heap.size
  c0 : w.cell? ⟨b, 0, none⟩ = some (.slice a len cap)
  c1 : w.cell? ⟨b, 1, none⟩ = some (.int .i64 i)
  c2 : w.cell? ⟨b, 2, none⟩ = some (.int .u64 u)
  fr : ∀ o, w.frozen? ⟨b, o, none⟩ = false
  u0 : 0 ≤ u
  u1 : u ≤ 18446744073709551615

theorem and_255 (E : Int) (h0 : 0 ≤ E) (h1 : E ≤ 18446744073709551615) : bits BinOp.and IntKind.u64 E 255 = E % 256 := by
  have h := bits_and_u64_nat E.toNat 255 (by omega) (by omega)
  rw [show (255 : Nat) = 2 ^ 8 - 1 from rfl, Nat.and_two_pow_sub_one_eq_mod, Int.toNat_of_nonneg h0] at h
  have h2 : ((E.toNat % 2 ^ 8 : Nat) : Int) = E % 256 := by omega
  exact h.trans h2
theorem u64_bd (n : Int) : 0 ≤ IntKind.u64.wrap n ∧ IntKind.u64.wrap n ≤ 18446744073709551615 := by
  have := bounds_u64 (wf_wrap IntKind.u64 n)
  omega
theorem byte_bd (S : Int) (h0 : 0 ≤ S) (h1 : S ≤ 18446744073709551615) : 0 ≤ wrap64 (bits BinOp.and IntKind.u64 (S / 1099511627776) 255) ∧ wrap64 (bits BinOp.and IntKind.u64 (S / 1099511627776) 255) ≤ 255 := by
  rw [and_255 _ (by omega) (by omega)]
  unfold wrap64
  omega

/-- What a step of the source leaves. -/
def NextP (b : Nat) (a : Option Addr) (len cap i : Nat) (w : World) (e : Ending) (w' : World) : Prop :=
  ∃ v u, (0 ≤ v ∧ v ≤ 255) ∧ e = .returned (.int .i64 v) ∧ But b w w' ∧ SrcAt w' b a len cap (i + 1) u

theorem next_world {b : Nat} {a : Option Addr} {len cap i : Nat} {w : World} (n m : Nat) (S : Int) (hb : b < w.heap.size) (c0 : w.cell? ⟨b, 0, none⟩ = some (.slice a len cap)) (c1 : w.cell? ⟨b, 1, none⟩ = some (.int .i64 i)) {u : Int} (c2 : w.cell? ⟨b, 2, none⟩ = some (.int .u64 u))
    (fr : ∀ o, w.frozen? ⟨b, o, none⟩ = false) (h0 : 0 ≤ S) (h1 : S ≤ 18446744073709551615) :
    But b w ((((w.drewN n).setCell ⟨b, 1, none⟩ (.int .i64 (↑i + 1))).setCell ⟨b, 2, none⟩ (.int .u64 S)).drewN m) ∧ SrcAt ((((w.drewN n).setCell ⟨b, 1, none⟩ (.int .i64 (↑i + 1))).setCell ⟨b, 2, none⟩ (.int .u64 S)).drewN m) b a len cap (i + 1) S := by
  refine ⟨((((But.refl _ _).drewN n).setCell (p := ⟨b, 1, none⟩) rfl _).setCell (p := ⟨b, 2, none⟩) rfl _).drewN m, ⟨?_, ?_, ?_, ?_, ?_, h0, h1⟩⟩
  · simpa [World.drewN] using hb
  · go_simp
  · go_simp
  · go_simp
  · intro o
    have := fr o
    go_simp

set_option maxHeartbeats 1000000 in
theorem next_far (b : Nat) (a : Option Addr) (len cap i : Nat) (u : Int) (w : World) (hs : SrcAt w b a len cap i u) (hi : i < 1000000) (hl : len ≤ i) (hlen : len ≤ 9223372036854775807) :
    Calls Try.prog 15 #[.pointer (some ⟨b, 0, none⟩)] w (NextP b a len cap i w) := by
  obtain ⟨hb, c0, c1, c2, fr, u0, u1⟩ := hs
  have Fr := Lib.hid fr
  have fr1 := fr 1
  have fr2 := fr 2
  clear fr
  have g1 : ¬ ((i : Int) < (len : Int)) := by omega
  go_enter Try.func15, Try.ntmps15
  go_wp2_with fail
  go_quiet (fail)
  go_wp2_with fail
  go_quiet (fail)
  go_wp2_with fail
  go_ret
  obtain ⟨h0, h1⟩ := u64_bd (IntKind.u64.wrap (IntKind.u64.wrap (u * 6364136223846793005)) + 1442695040888963407)
  obtain ⟨k1, k2⟩ := next_world _ _ _ hb c0 c1 c2 Fr.out h0 h1
  exact ⟨_, _, byte_bd _ h0 h1, rfl, k1, k2⟩

set_option maxHeartbeats 2000000 in
theorem next_near (b : Nat) (c off len cap i : Nat) (x : Int) (u : Int) (w : World) (hs : SrcAt w b (some ⟨c, off, none⟩) len cap i u) (hi : i < 1000000) (hl : i < len) (hlen : len ≤ 9223372036854775807)
    (hx : w.cell? ⟨c, off + i, none⟩ = some (.int .u8 x)) (x0 : 0 ≤ x) (x1 : x ≤ 255) (hcb : c ≠ b) :
    Calls Try.prog 15 #[.pointer (some ⟨b, 0, none⟩)] w (NextP b (some ⟨c, off, none⟩) len cap i w) := by
  obtain ⟨hb, c0, c1, c2, fr, u0, u1⟩ := hs
  have Fr := Lib.hid fr
  have fr1 := fr 1
  have fr2 := fr 2
  clear fr
  have g1 : (i : Int) < (len : Int) := by omega
  have g0 : (0 : Int) ≤ (i : Int) := by omega
  go_enter Try.func15, Try.ntmps15
  go_wp2_with fail
  go_quiet (fail)
  go_wp2_with fail
  go_quiet (fail)
  go_wp2_with fail
  go_quiet (fail)
  go_wp2_with fail
  go_ret
  obtain ⟨h0, h1⟩ := u64_bd (IntKind.u64.wrap (IntKind.u64.wrap (u * 6364136223846793005) + x) + 1442695040888963407)
  obtain ⟨k1, k2⟩ := next_world _ _ _ hb c0 c1 c2 Fr.out h0 h1
  exact ⟨_, _, ⟨x0, x1⟩, rfl, k1, k2⟩

/-- The bytes from which the source reads. -/
def RowAt (w : World) (b : Nat) (a : Option Addr) (len : Nat) : Prop :=
  len ≤ 9223372036854775807 ∧ (len = 0 ∨ ∃ c off, a = some ⟨c, off, none⟩ ∧ c ≠ b ∧ c < w.heap.size ∧ ∀ i, i < len → ∃ x : Int, w.cell? ⟨c, off + i, none⟩ = some (.int .u8 x) ∧ 0 ≤ x ∧ x ≤ 255)
theorem RowAt.but {w w' : World} {b : Nat} {a : Option Addr} {len : Nat} (h : RowAt w b a len) (k : But b w w') : RowAt w' b a len := by
  obtain ⟨hl, h | ⟨c, off, ha, hcb, hc, hx⟩⟩ := h
  · exact ⟨hl, .inl h⟩
  · refine ⟨hl, .inr ⟨c, off, ha, hcb, Nat.lt_of_lt_of_le hc k.size, fun i hi => ?_⟩⟩
    rw [k.cell hc hcb]
    exact hx i hi
/-- The source at block b, after at most K steps. -/
def Src (w : World) (b : Nat) (a : Option Addr) (len cap K : Nat) : Prop := RowAt w b a len ∧ ∃ i u, i ≤ K ∧ SrcAt w b a len cap i u
theorem Src.lt {w : World} {b : Nat} {a : Option Addr} {len cap K : Nat} (h : Src w b a len cap K) : b < w.heap.size := by
  obtain ⟨_, _, _, _, h⟩ := h
  exact h.lt
theorem Src.mono {w : World} {b : Nat} {a : Option Addr} {len cap K K' : Nat} (h : Src w b a len cap K) (hk : K ≤ K') : Src w b a len cap K' := by
  obtain ⟨h1, i, u, hi, h⟩ := h
  exact ⟨h1, i, u, by omega, h⟩
/-- What leaves the block of the source alone leaves the source. -/
theorem Src.below {w w' : World} {b : Nat} {a : Option Addr} {len cap K : Nat} (h : Src w b a len cap K) (k : Below w.heap.size w w') : Src w' b a len cap K := by
  obtain ⟨h1, i, u, hi, h⟩ := h
  refine ⟨h1.but (But.of_below k), i, u, hi, ⟨Nat.lt_of_lt_of_le h.lt k.size, ?_, ?_, ?_, fun o => ?_, h.u0, h.u1⟩⟩
  · rw [k.cell h.lt]; exact h.c0
  · rw [k.cell h.lt]; exact h.c1
  · rw [k.cell h.lt]; exact h.c2
  · rw [k.frozen h.lt]; exact h.fr o

def StepP (b : Nat) (a : Option Addr) (len cap K : Nat) (w : World) (e : Ending) (w' : World) : Prop :=
  ∃ v, (0 ≤ v ∧ v ≤ 255) ∧ e = .returned (.int .i64 v) ∧ But b w w' ∧ Src w' b a len cap (K + 1)
theorem next_any (b : Nat) (a : Option Addr) (len cap K : Nat) (w : World) (hs : Src w b a len cap K) (hK : K < 1000000) :
    Calls Try.prog 15 #[.pointer (some ⟨b, 0, none⟩)] w (StepP b a len cap K w) := by
  obtain ⟨hr, i, u, hi, h⟩ := hs
  have fin : ∀ e w', NextP b a len cap i w e w' → StepP b a len cap K w e w' := fun e w' ⟨v, u', hv, he, hb, hs'⟩ => ⟨v, hv, he, hb, hr.but hb, i + 1, u', by omega, hs'⟩
  by_cases hl : i < len
  · obtain ⟨hlen, h0 | ⟨c, off, rfl, hcb, hc, hx⟩⟩ := hr
    · omega
    · obtain ⟨x, hx, x0, x1⟩ := hx i hl
      exact (next_near b c off len cap i x u w h (by omega) hl hlen hx x0 x1 hcb).mono fin
  · exact (next_far b a len cap i u w h (by omega) (by omega) hr.1).mono fin

def PickP (b : Nat) (a : Option Addr) (len cap K : Nat) (n : Int) (w : World) (e : Ending) (w' : World) : Prop :=
  ∃ v, (0 ≤ v ∧ v < n) ∧ e = .returned (.int .i64 v) ∧ But b w w' ∧ Src w' b a len cap (K + 2)
set_option maxHeartbeats 1000000 in
theorem pick_any (b : Nat) (a : Option Addr) (len cap K : Nat) (n : Int) (w : World) (hs : Src w b a len cap K) (hK : K < 999999) (h1 : 1 ≤ n) (hn : n ≤ 9223372036854775807) :
    Calls Try.prog 14 #[.pointer (some ⟨b, 0, none⟩), .int .i64 n] w (PickP b a len cap K n w) := by
  by_cases e1 : n ≤ 1
  · go_enter Try.func14, Try.ntmps14
    go_wp2
    go_ret
    exact ⟨0, ⟨by omega, by omega⟩, rfl, But.refl _ _, hs.mono (by omega)⟩
  · by_cases e2 : n ≤ 200
    · have Hs := Lib.hid hs
      clear hs
      go_enter Try.func14, Try.ntmps14
      go_wp2_with (go_at_call 15; refine (next_any b a len cap K _ Hs.out (by omega)).mono ?_; rintro e w1 ⟨v, ⟨v0, v1⟩, rfl, hb1, hs1⟩; have Hs1 := Lib.hid hs1; clear hs1)
      go_ret
      exact ⟨v % n, ⟨Int.emod_nonneg _ (by omega), Int.emod_lt_of_pos _ (by omega)⟩, rfl, hb1, Hs1.out.mono (by omega)⟩
    · have Hs := Lib.hid hs
      clear hs
      go_enter Try.func14, Try.ntmps14
      go_wp2_with fail
      refine (next_any b a len cap K _ Hs.out (by omega)).mono ?_
      rintro e w1 ⟨v, ⟨v0, v1⟩, rfl, hb1, hs1⟩
      have Hs1 := Lib.hid hs1
      clear hs1
      go_wp2_with fail
      refine (next_any b a len cap (K + 1) _ Hs1.out (by omega)).mono ?_
      rintro e w2 ⟨u, ⟨u0, u1⟩, rfl, hb2, hs2⟩
      have Hs2 := Lib.hid hs2
      clear hs2
      go_wp2_with fail
      go_ret
      exact ⟨(v * 256 + u) % n, ⟨Int.emod_nonneg _ (by omega), Int.emod_lt_of_pos _ (by omega)⟩, rfl, hb1.trans hb2, Hs2.out.mono (by omega)⟩


/-- One of some texts. -/
def TextP (b : Nat) (a : Option Addr) (len cap K : Nat) (ss : List ByteArray) (w : World) (e : Ending) (w' : World) : Prop :=
  ∃ s, s ∈ ss ∧ e = .returned (.string s) ∧ But b w w' ∧ Src w' b a len cap (K + 2)
theorem text_any (b : Nat) (a : Option Addr) (len cap K : Nat) (d m : Nat) (ss : List ByteArray) (w : World) (hs : Src w b a len cap K) (hK : K < 999999) (h1 : 0 < ss.length) (hn : ss.length ≤ 1000000) (hd : d < w.heap.size) (hdb : d ≠ b)
    (hx : ∀ i s, ss[i]? = some s → w.cell? ⟨d, i, none⟩ = some (.string s)) :
    Calls Try.prog 12 #[.pointer (some ⟨b, 0, none⟩), .slice (some ⟨d, 0, none⟩) ss.length m] w (TextP b a len cap K ss w) := by
  have Hs := Lib.hid hs
  have Hx := Lib.hid hx
  clear hs hx
  generalize hss : ss.length = k at *
  have Hk := Lib.hid hss
  clear hss
  go_enter Try.func12, Try.ntmps12
  go_wp2_with fail
  refine (pick_any b a len cap K _ _ Hs.out hK (by omega) (by omega)).mono ?_
  rintro e w1 ⟨v, ⟨v0, v1⟩, rfl, hb1, hs1⟩
  have Hs1 := Lib.hid hs1
  clear hs1
  obtain ⟨i, rfl⟩ := Int.eq_ofNat_of_zero_le v0
  have hi : i < k := by omega
  obtain ⟨s, hm⟩ : ∃ s, ss[i]? = some s := ⟨ss[i]'(by rw [Hk.out]; exact hi), List.getElem?_eq_getElem _⟩
  have hcell : w1.cell? ⟨d, i, none⟩ = some (.string s) := by rw [hb1.cell hd hdb]; exact Hx.out i s hm
  have Hm := Lib.hid hm
  clear hm
  go_wp2_with fail
  go_ret
  exact ⟨s, List.mem_of_getElem? Hm.out, rfl, hb1, Hs1.out⟩

theorem add_at (b off i : Nat) : (⟨b, off + i, none⟩ : Addr) = (⟨b, off, none⟩ : Addr).add i := by
  by_cases h : i = 0 <;> simp [Addr.add, h]
/-- A slice of bytes that came in. -/
def Bytes (w : World) (a : Option Addr) (len : Nat) : Prop :=
  len ≤ 9223372036854775807 ∧ (len = 0 ∨ ∃ c off, a = some ⟨c, off, none⟩ ∧ c < w.heap.size ∧ ∀ i, i < len → ∃ x : Int, w.cell? ⟨c, off + i, none⟩ = some (.int .u8 x) ∧ 0 ≤ x ∧ x ≤ 255)
theorem Bytes.below {w w' : World} {a : Option Addr} {len : Nat} (h : Bytes w a len) (k : Below w.heap.size w w') : Bytes w' a len := by
  obtain ⟨hl, h | ⟨c, off, ha, hc, hx⟩⟩ := h
  · exact ⟨hl, .inl h⟩
  · refine ⟨hl, .inr ⟨c, off, ha, Nat.lt_of_lt_of_le hc k.size, fun i hi => ?_⟩⟩
    rw [k.cell hc]
    exact hx i hi
theorem Bytes.row {w : World} {a : Option Addr} {len : Nat} (h : Bytes w a len) (o : Obj) : RowAt (w.alloc o) w.heap.size a len := by
  obtain ⟨hl, h | ⟨c, off, ha, hc, hx⟩⟩ := h
  · exact ⟨hl, .inl h⟩
  · refine ⟨hl, .inr ⟨c, off, ha, by omega, by simp; omega, fun i hi => ?_⟩⟩
    rw [((Below.refl _ _).alloc (Nat.le_refl _) o).cell hc]
    exact hx i hi
section
variable {H : Type} {enc : TypeId × Value → H} {P : Program} {w : World} {base : Nat}
theorem open_bytes {r : Reach} {b0 : Nat} {t e : TypeId} {v : Value} {d : DataW H} {ps : List MemPlace} (ht : P.underlying t = some (.slice e)) (he : P.underlying e = some (.int .u8)) (hce : P.cellsOf e = 1)
    (hv : Value.okWide P w r b0 t v) (h : DataW.Trod enc P w base (fun _ => true) true t v d ps) : ∃ a len cap, v = .slice a len cap ∧ Bytes w a len := by
  obtain ⟨a, len, cap, rfl⟩ := okWide_slice ht hv
  obtain ⟨fuel, hf⟩ := h
  rcases open_ints ht he hce hf with ⟨hcs, _⟩ | ⟨x, l, c, zs, hcs, _, hl, hm, hz, _, hcell, hwz⟩
  · simp [Value.cells] at hcs
    obtain ⟨rfl, rfl, rfl⟩ := hcs
    exact ⟨_, _, _, rfl, by omega, .inl rfl⟩
  · simp [Value.cells] at hcs
    obtain ⟨rfl, rfl, rfl⟩ := hcs
    simp at hz
    unfold maxLen at hm
    refine ⟨_, _, _, rfl, by omega, ?_⟩
    by_cases h0 : len = 0
    · exact .inl h0
    · obtain ⟨b, off, spot⟩ := x
      have hc := hcell 0 (by omega)
      have hspot : spot = none := by simpa [Addr.add] using World.cell?_spot hc
      subst hspot
      refine .inr ⟨b, off, rfl, by simpa [Addr.add] using World.block_lt_of_cell? w _ hc, fun i hi => ⟨zs.getD i 0, by rw [add_at]; exact hcell i (by omega), ?_⟩⟩
      have hb := bounds_u8 (hwz (zs.getD i 0) (by simp [List.getD, List.getElem?_eq_getElem (show i < zs.length by omega)]))
      omega
end
end Go.Proofs.Ytkfflhhnaohhaaa
