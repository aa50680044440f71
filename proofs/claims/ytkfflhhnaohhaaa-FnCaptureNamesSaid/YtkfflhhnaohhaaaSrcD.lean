/- The source of choices of the reference, told: which numbers it gives, step by step, from the bytes that it reads. No conditions. -/
import Derived.Test.YtkfflhhnaohhaaaSrc
namespace Go.Proofs.Ytkfflhhnaohhaaa
open Go.Joins Go.ChangeShapes Go.WideShapes Go.ChangeAt Go.RowKit Go.Deep
set_option linter.unusedVariables false

/-- The seed behind a step, with a byte and behind the end. -/
def sdU (u x : Int) : Int := IntKind.u64.wrap (IntKind.u64.wrap (IntKind.u64.wrap (u * 6364136223846793005) + x) + 1442695040888963407)
def sdF (u : Int) : Int := IntKind.u64.wrap (IntKind.u64.wrap (IntKind.u64.wrap (u * 6364136223846793005)) + 1442695040888963407)
/-- What a step gives at place i with the seed u, and the seed behind it. -/
def nxV (f : Nat → Int) (len i : Nat) (u : Int) : Int := if i < len then f i else wrap64 (bits BinOp.and IntKind.u64 (sdF u / 1099511627776) 255)
def nxU (f : Nat → Int) (len i : Nat) (u : Int) : Int := if i < len then sdU u (f i) else sdF u
/-- The bytes that came in, told. -/
def BytesF (w : World) (a : Option Addr) (len : Nat) (f : Nat → Int) : Prop :=
  len ≤ 9223372036854775807 ∧ (∀ i, i < len → 0 ≤ f i ∧ f i ≤ 255) ∧ (len = 0 ∨ ∃ c off, a = some ⟨c, off, none⟩ ∧ c < w.heap.size ∧ ∀ i, i < len → w.cell? ⟨c, off + i, none⟩ = some (.int .u8 (f i)))
theorem BytesF.below {w w' : World} {a : Option Addr} {len : Nat} {f : Nat → Int} (h : BytesF w a len f) (k : Below w.heap.size w w') : BytesF w' a len f := by
  obtain ⟨hl, hf, h | ⟨c, off, ha, hc, hx⟩⟩ := h
  · exact ⟨hl, hf, .inl h⟩
  · refine ⟨hl, hf, .inr ⟨c, off, ha, Nat.lt_of_lt_of_le hc k.size, fun i hi => ?_⟩⟩
    rw [k.cell hc]
    exact hx i hi
def byteOf (v : Option Value) : Int := match v with
  | some (.int .u8 x) => x
  | _ => 0
theorem Bytes.told {w : World} {a : Option Addr} {len : Nat} (h : Bytes w a len) : ∃ f, BytesF w a len f := by
  obtain ⟨hl, h | ⟨c, off, ha, hc, hx⟩⟩ := h
  · exact ⟨fun _ => 0, hl, fun i hi => by omega, .inl h⟩
  · have hv : ∀ i, i < len → w.cell? ⟨c, off + i, none⟩ = some (.int .u8 (byteOf (w.cell? ⟨c, off + i, none⟩))) ∧ 0 ≤ byteOf (w.cell? ⟨c, off + i, none⟩) ∧ byteOf (w.cell? ⟨c, off + i, none⟩) ≤ 255 := by
      intro i hi
      obtain ⟨x, e, x0, x1⟩ := hx i hi
      rw [e]
      exact ⟨rfl, x0, x1⟩
    exact ⟨fun i => byteOf (w.cell? ⟨c, off + i, none⟩), hl, fun i hi => (hv i hi).2, .inr ⟨c, off, ha, hc, fun i hi => (hv i hi).1⟩⟩
/-- The source at block b, told. -/
structure SrcD (w : World) (b : Nat) (a : Option Addr) (len cap : Nat) (f : Nat → Int) (i : Nat) (u : Int) : Prop where
  row : BytesF w a len f
  off : len = 0 ∨ ∀ c o, a = some ⟨c, o, none⟩ → c ≠ b
  at_ : SrcAt w b a len cap i u
theorem BytesF.but {w w' : World} {a : Option Addr} {len b : Nat} {f : Nat → Int} (h : BytesF w a len f) (hb : len = 0 ∨ ∀ c o, a = some ⟨c, o, none⟩ → c ≠ b) (k : But b w w') : BytesF w' a len f := by
  obtain ⟨hl, hf, h | ⟨c, off, ha, hc, hx⟩⟩ := h
  · exact ⟨hl, hf, .inl h⟩
  · rcases hb with h0 | hb
    · exact ⟨hl, hf, .inl h0⟩
    refine ⟨hl, hf, .inr ⟨c, off, ha, Nat.lt_of_lt_of_le hc k.size, fun i hi => ?_⟩⟩
    rw [k.cell hc (hb c off ha)]
    exact hx i hi
theorem SrcAt.below {w w' : World} {b : Nat} {a : Option Addr} {len cap i : Nat} {u : Int} (h : SrcAt w b a len cap i u) (k : Below w.heap.size w w') : SrcAt w' b a len cap i u :=
  ⟨Nat.lt_of_lt_of_le h.lt k.size, by rw [k.cell h.lt]; exact h.c0, by rw [k.cell h.lt]; exact h.c1, by rw [k.cell h.lt]; exact h.c2, fun o => by rw [k.frozen h.lt]; exact h.fr o, h.u0, h.u1⟩
theorem BytesF.off {w : World} {a : Option Addr} {len : Nat} {f : Nat → Int} (h : BytesF w a len f) : len = 0 ∨ ∀ c o, a = some ⟨c, o, none⟩ → c ≠ w.heap.size := by
  obtain ⟨hl, hf, h | ⟨c, off, ha, hc, hx⟩⟩ := h
  · exact .inl h
  · refine .inr fun c' o' e => ?_
    rw [ha] at e
    cases e
    omega
theorem SrcD.below {w w' : World} {b : Nat} {a : Option Addr} {len cap i : Nat} {f : Nat → Int} {u : Int} (h : SrcD w b a len cap f i u) (k : Below w.heap.size w w') : SrcD w' b a len cap f i u :=
  ⟨h.row.below k, h.off, h.at_.below k⟩

/-- What a step of the source leaves. -/
def StepD (b : Nat) (a : Option Addr) (len cap : Nat) (f : Nat → Int) (i : Nat) (v u' : Int) (w : World) (e : Ending) (w' : World) : Prop :=
  e = .returned (.int .i64 v) ∧ But b w w' ∧ SrcD w' b a len cap f i u'
theorem nx_bd (f : Nat → Int) (len i : Nat) (u : Int) (h : ∀ i, i < len → 0 ≤ f i ∧ f i ≤ 255) : 0 ≤ nxV f len i u ∧ nxV f len i u ≤ 255 := by
  unfold nxV
  by_cases hi : i < len
  · rw [if_pos hi]
    exact h i hi
  · rw [if_neg hi]
    obtain ⟨h0, h1⟩ := u64_bd (IntKind.u64.wrap (IntKind.u64.wrap (u * 6364136223846793005)) + 1442695040888963407)
    exact byte_bd (sdF u) h0 h1
set_option maxHeartbeats 2000000 in
theorem nextD_any (b : Nat) (a : Option Addr) (len cap : Nat) (f : Nat → Int) (i : Nat) (u : Int) (w : World) (h : SrcD w b a len cap f i u) (hi : i < 1000000) :
    Calls Try.prog 15 #[.pointer (some ⟨b, 0, none⟩)] w (StepD b a len cap f (i + 1) (nxV f len i u) (nxU f len i u) w) := by
  obtain ⟨⟨hlen, hf, hr⟩, hoff, ⟨hb, c0, c1, c2, fr, u0, u1⟩⟩ := h
  have Fr := Lib.hid fr
  have fr1 := fr 1
  have fr2 := fr 2
  clear fr
  have HO := Lib.hid hoff
  by_cases hl : i < len
  · rcases hr with h0 | ⟨c, off, rfl, hc, hx⟩
    · omega
    · have x0 := (hf i hl).1
      have x1 := (hf i hl).2
      have y := hx i hl
      have hcb := hoff.resolve_left (by omega) c off rfl
      have ev : nxV f len i u = f i := by unfold nxV; rw [if_pos hl]
      have eu : nxU f len i u = sdU u (f i) := by unfold nxU; rw [if_pos hl]
      have HR := Lib.hid (show BytesF w (some ⟨c, off, none⟩) len f from ⟨hlen, hf, .inr ⟨c, off, rfl, hc, hx⟩⟩)
      rw [ev, eu]
      have Heu := Lib.hid (rfl : sdU u (f i) = _)
      clear hx hf hoff ev eu
      generalize f i = x at *
      have g1 : (i : Int) < (len : Int) := by omega
      have g0 : (0 : Int) ≤ (i : Int) := by omega
      go_enter Try.func15, Try.ntmps15
      go_wp2_with fail
      go_quiet (fail)
      go_wp2_with fail
      go_quiet (fail)
      go_wp2_with fail
      go_quiet (fail)
      go_wp2_with fail
      go_ret
      obtain ⟨h0, h1⟩ := u64_bd (IntKind.u64.wrap (IntKind.u64.wrap (u * 6364136223846793005) + x) + 1442695040888963407)
      obtain ⟨k1, k2⟩ := next_world _ _ _ hb c0 c1 c2 Fr.out h0 h1
      exact ⟨rfl, k1, ⟨HR.out.but HO.out k1, HO.out, k2⟩⟩
  · have ev : nxV f len i u = wrap64 (bits BinOp.and IntKind.u64 (sdF u / 1099511627776) 255) := by unfold nxV; rw [if_neg hl]
    have eu : nxU f len i u = sdF u := by unfold nxU; rw [if_neg hl]
    have HR := Lib.hid (show BytesF w a len f from ⟨hlen, hf, hr⟩)
    rw [ev, eu]
    clear hr hf hoff ev eu
    have g1 : ¬ ((i : Int) < (len : Int)) := by omega
    have hl2 : len ≤ i := by omega
    go_enter Try.func15, Try.ntmps15
    go_wp2_with fail
    go_quiet (fail)
    go_wp2_with fail
    go_quiet (fail)
    go_wp2_with fail
    go_ret
    obtain ⟨h0, h1⟩ := u64_bd (IntKind.u64.wrap (IntKind.u64.wrap (u * 6364136223846793005)) + 1442695040888963407)
    obtain ⟨k1, k2⟩ := next_world _ _ _ hb c0 c1 c2 Fr.out h0 h1
    exact ⟨rfl, k1, ⟨HR.out.but HO.out k1, HO.out, k2⟩⟩
/-- What a choice of n numbers gives, and the source behind it. -/
def pkV (f : Nat → Int) (len i : Nat) (u n : Int) : Int := if n ≤ 1 then 0 else nxV f len i u % n
def pkI (i : Nat) (n : Int) : Nat := if n ≤ 1 then i else i + 1
def pkU (f : Nat → Int) (len i : Nat) (u n : Int) : Int := if n ≤ 1 then u else nxU f len i u
theorem pk_bd (f : Nat → Int) (len i : Nat) (u n : Int) (h1 : 1 ≤ n) : 0 ≤ pkV f len i u n ∧ pkV f len i u n < n := by
  unfold pkV
  by_cases h : n ≤ 1
  · rw [if_pos h]; omega
  · rw [if_neg h]
    exact ⟨Int.emod_nonneg _ (by omega), Int.emod_lt_of_pos _ (by omega)⟩
theorem pkI_le (i : Nat) (n : Int) : pkI i n ≤ i + 1 := by
  unfold pkI
  split <;> omega
set_option maxHeartbeats 1000000 in
theorem pickD_any (b : Nat) (a : Option Addr) (len cap : Nat) (f : Nat → Int) (i : Nat) (u n : Int) (w : World) (h : SrcD w b a len cap f i u) (hi : i < 1000000) (h1 : 1 ≤ n) (hn : n ≤ 200) :
    Calls Try.prog 14 #[.pointer (some ⟨b, 0, none⟩), .int .i64 n] w (StepD b a len cap f (pkI i n) (pkV f len i u n) (pkU f len i u n) w) := by
  by_cases e1 : n ≤ 1
  · have ev : pkV f len i u n = 0 := by unfold pkV; rw [if_pos e1]
    have eu : pkU f len i u n = u := by unfold pkU; rw [if_pos e1]
    have ei : pkI i n = i := by unfold pkI; rw [if_pos e1]
    rw [ev, eu, ei]
    have H := Lib.hid h
    clear ev eu ei h
    go_enter Try.func14, Try.ntmps14
    go_wp2
    go_ret
    exact ⟨rfl, But.refl _ _, H.out⟩
  · have ev : pkV f len i u n = nxV f len i u % n := by unfold pkV; rw [if_neg e1]
    have eu : pkU f len i u n = nxU f len i u := by unfold pkU; rw [if_neg e1]
    have ei : pkI i n = i + 1 := by unfold pkI; rw [if_neg e1]
    rw [ev, eu, ei]
    obtain ⟨v0, v1⟩ := nx_bd f len i u h.row.2.1
    have HN := Lib.hid (nextD_any b a len cap f i u w h hi)
    clear ev eu ei h
    generalize nxV f len i u = v at *
    generalize nxU f len i u = u' at *
    go_enter Try.func14, Try.ntmps14
    go_wp2_with (go_at_call 15; refine HN.out.mono ?_; rintro e w1 ⟨rfl, hb1, hs1⟩; have Hs1 := Lib.hid hs1; clear hs1)
    go_ret
    exact ⟨rfl, hb1, Hs1.out⟩
/-- One of some texts. -/
theorem textD_any (b : Nat) (a : Option Addr) (len cap : Nat) (f : Nat → Int) (i : Nat) (u : Int) (d m k : Nat) (ss : List ByteArray) (s : ByteArray) (w : World) (h : SrcD w b a len cap f i u) (hi : i < 1000000) (hss : ss.length = k) (h1 : 0 < k) (hn : k ≤ 200)
    (hd : d < w.heap.size) (hdb : d ≠ b) (hx : ∀ i s, ss[i]? = some s → w.cell? ⟨d, i, none⟩ = some (.string s)) (hs : ss[(pkV f len i u k).toNat]? = some s) :
    Calls Try.prog 12 #[.pointer (some ⟨b, 0, none⟩), .slice (some ⟨d, 0, none⟩) k m] w fun e w' => e = .returned (.string s) ∧ But b w w' ∧ SrcD w' b a len cap f (pkI i k) (pkU f len i u k) := by
  have HN := Lib.hid (pickD_any b a len cap f i u k w h hi (by omega) (by omega))
  obtain ⟨v0, v1⟩ := pk_bd f len i u k (by omega)
  have Hx := Lib.hid hx
  have Hs := Lib.hid hs
  clear hx h hs
  generalize pkV f len i u k = v at *
  generalize pkU f len i u k = u' at *
  generalize pkI i k = i' at *
  obtain ⟨j, rfl⟩ := Int.eq_ofNat_of_zero_le v0
  have hj : j < k := by omega
  go_enter Try.func12, Try.ntmps12
  go_wp2_with fail
  refine HN.out.mono ?_
  rintro e w1 ⟨rfl, hb1, hs1⟩
  have Hs1 := Lib.hid hs1
  have hcell : w1.cell? ⟨d, j, none⟩ = some (.string s) := by rw [hb1.cell hd hdb]; exact Hx.out j s (by have := Hs.out; rwa [Int.toNat_natCast] at this)
  clear hs1
  go_wp2_with fail
  go_ret
  exact ⟨rfl, hb1, Hs1.out⟩
end Go.Proofs.Ytkfflhhnaohhaaa
