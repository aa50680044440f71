/- What the iterator over a move's seeds keeps. No conditions. -/
import Derived.Test.YtdhkfkfoibddnaaPut5
import Derived.Test.YtdhkfkfoibddnaaLast5
import Derived.Test.YtdhkfkfoibddnaaScope
namespace Go.Proofs.Ytdhkfkfoibddnaa
open Go.RowKit Go.Shelf
set_option linter.unusedVariables false

def Cfg.R (K : Cfg) : Rl := ⟨K.p, K.pl, K.st, K.sk, K.re⟩
theorem put_any (K : Cfg) (y ha la lp : Int) (xs ys : List Int) (W : World) (hpl : K.pl = 0 ∨ K.pl = 1) (h : SwS W K ha la lp xs ys) (h0 : 1 ≤ ha) (h1 : ha ≤ 96) (hy0 : -1 ≤ y) (hy1 : y < K.n1) (hn : K.n1 ≤ 1000)
    (hb : ∀ i, (0 ≤ xs.getD i 0 ∧ xs.getD i 0 ≤ 96) ∧ (0 ≤ ys.getD i 0 ∧ ys.getD i 0 ≤ 96)) :
    Calls Try.prog 104 #[.pointer (some ⟨K.b, 0, none⟩), .int .i64 y] W (PutP K y ha lp xs ys W) := by
  by_cases e : y = -1
  · subst e
    rcases hpl with e | e
    · exact putS0 K ha la lp xs ys W e h h0 h1 (hb 0).2.1 (hb 0).2.2
    · exact putS1 K ha la lp xs ys W e h h0 h1 (hb 1).2.1 (hb 1).2.2
  · obtain ⟨m, rfl⟩ : ∃ m : Nat, y = m := ⟨y.toNat, by omega⟩
    exact putP_any K m ha la lp xs ys W h (by omega) hn h0 h1 (hb m).1.1 (hb m).1.2

/-- A lap that begins: j laps are done. -/
structure Stg where
  j : Nat
  xs : List Int
  ys : List Int
  f : Int
  path : List Int
def Stg.n (s : Stg) : Nat := cnt s.xs s.f
def Stg.next (R : Rl) (s : Stg) : Stg := ⟨s.j + 1, cx R s.xs s.f s.n, cy R s.ys s.f s.n, lst R s.xs s.f, s.path ++ lapP R s.f s.n⟩
structure Stg.Ok (R : Rl) (t : Int) (s : Stg) : Prop where
  lap : Lap R s.xs s.ys s.f t
  hi : s.j ≤ 100
/-- The struct when i seeds of the lap are sown. -/
def StW (A : World) (K : Cfg) (s : Stg) (i : Nat) (la : Int) : Prop := SwS A K ((s.n : Int) - i) la (s.j + 1) (cx K.R s.xs s.f i) (cy K.R s.ys s.f i)
/-- From A to Z nothing below B has turned but for the struct and its rows. -/
structure Out (B : Nat) (K : Cfg) (A Z : World) : Prop where
  os : Z.os = A.os
  tape : Z.tape = A.tape
  output : Z.output = A.output
  size : A.heap.size ≤ Z.heap.size
  keep : ∀ k, k < B → k ≠ K.b → k ≠ K.g1 → k ≠ K.g2 → Z.heap[k]? = A.heap[k]?
theorem Out.of_low {B : Nat} {K : Cfg} {A Z : World} (h : Below B A Z) : Out B K A Z := ⟨h.os, h.tape, h.output, h.size, fun k hk _ _ _ => h.block k hk⟩
theorem Out.of_ch {B : Nat} {K : Cfg} {A Z : World} (h : Ch K A Z) (hB : B ≤ A.heap.size) : Out B K A Z := ⟨h.os, h.tape, h.output, h.size, fun k hk a b c => h.keep k (by omega) a b c⟩
theorem Above.of_ch {B : Nat} {K : Cfg} {A Z : World} (h : Ch K A Z) (hb : K.b < B ∧ K.g1 < B ∧ K.g2 < B) : Above B A Z := ⟨h.size, fun k hB hk => h.keep k hk (by omega) (by omega) (by omega)⟩
theorem low_put {B r : Nat} (A : World) (o : Obj) (hr : B ≤ r) : Below B A (A.putObj r o) := ⟨rfl, rfl, rfl, by simp, fun k hk => World.putObj_heap_other (by omega)⟩
theorem low_set {B : Nat} (A : World) {q : Addr} (hq : B ≤ q.block) (x : Value) : Below B A (A.setCell q x) := (Below.refl B A).setCell hq x
theorem low_below {B : Nat} {A Z : World} (h : Below A.heap.size A Z) (hB : B ≤ A.heap.size) : Below B A Z := h.mono hB
theorem SwS.low {B : Nat} {A Z : World} {K : Cfg} {ha la lp : Int} {xs ys : List Int} (h : SwS A K ha la lp xs ys) (k : Below B A Z) (hb : K.b < B ∧ K.g1 < B ∧ K.g2 < B) : SwS Z K ha la lp xs ys :=
  h.keep (k.block _ hb.1) (k.block _ hb.2.1) (k.block _ hb.2.2) k.size

/-- A mark among the deferred calls. -/
def mk (D : Nat) : Deferred := { target := .collected D, args := #[] }
/-- The iterator's own boxes, and the blocks of its loops' deferred calls. -/
structure BxS (B0 kb l : Nat) (pv : Int) (ds : List Nat) (A : World) : Prop where
  lt : B0 + 3 ≤ A.heap.size
  cw : A.cell? ⟨B0, 0, none⟩ = some (.pointer (some ⟨kb, 0, none⟩))
  cv : A.cell? ⟨B0 + 1, 0, none⟩ = some (.func (.yield l) #[] #[])
  cp : A.cell? ⟨B0 + 1 + 1, 0, none⟩ = some (.int .i64 pv)
  fp : A.frozen? ⟨B0 + 1 + 1, 0, none⟩ = false
  ms : ∀ D ∈ ds, B0 ≤ D ∧ A.heap[D]? = some (.deferred (some []))
  nd : ds.Nodup
section
variable {B0 kb l : Nat} {pv : Int} {ds : List Nat} {A Z : World}
theorem BxS.above (h : BxS B0 kb l pv ds A) (k : Above B0 A Z) : BxS B0 kb l pv ds Z := by
  have hl := h.lt
  exact ⟨Nat.le_trans h.lt k.size, (k.cell (by omega) (by omega)).trans h.cw, (k.cell (by omega) (by omega)).trans h.cv, (k.cell (by omega) (by omega)).trans h.cp, (k.frozen (by omega) (by omega)).trans h.fp,
    fun D hD => ⟨(h.ms D hD).1, (k.keep D (h.ms D hD).1 (Array.getElem?_eq_some_iff.1 (h.ms D hD).2).1).trans (h.ms D hD).2⟩, h.nd⟩
theorem BxS.loop (h : BxS B0 kb l pv ds A) {L : Nat} {r r' : Loop} (hr : A.heap[L]? = some (.loop r)) : BxS B0 kb l pv ds (A.putObj L (.loop r')) := by
  have t := Tame.putObj (B := 0) (Nat.zero_le _) hr rfl (.loop r')
  exact ⟨by simpa using h.lt, (t.cell h.cw).1, (t.cell h.cv).1, (t.cell h.cp).1, (t.cell h.cp).2.trans h.fp,
    fun D hD => ⟨(h.ms D hD).1, (World.putObj_heap_other (fun e => by have := (h.ms D hD).2; rw [e, hr] at this; cases this)).trans (h.ms D hD).2⟩, h.nd⟩
theorem BxS.mark (h : BxS B0 kb l pv ds A) {D : Nat} (hD : A.heap[D]? = some (.deferred (some []))) (hB : B0 ≤ D) (hn : D ∉ ds) : BxS B0 kb l pv (D :: ds) A :=
  ⟨h.lt, h.cw, h.cv, h.cp, h.fp, fun E hE => by
    rcases List.mem_cons.1 hE with rfl | hE
    · exact ⟨hB, hD⟩
    · exact h.ms E hE, List.nodup_cons.2 ⟨hn, h.nd⟩⟩
theorem BxS.setP (h : BxS B0 kb l pv ds A) (v : Int) : BxS B0 kb l v ds (A.setCell ⟨B0 + 1 + 1, 0, none⟩ (.int .i64 v)) := by
  obtain ⟨lt, cw, cv, cp, fp, hm, nd⟩ := h
  have hc : ∃ o, A.heap[B0 + 1 + 1]? = some o ∧ o.isCells = true := by
    have hp := cp
    unfold World.cell? at hp
    rcases ho : A.heap[B0 + 1 + 1]? with _ | u
    · simp [ho] at hp
    · exact ⟨u, rfl, by cases u <;> simp_all [Obj.isCells]⟩
  obtain ⟨o, ho, hoc⟩ := hc
  exact ⟨by simpa using lt, by go_simp, by go_simp, by go_simp, by go_simp,
    fun D hD => ⟨(hm D hD).1, (Below.heap_setCell A ⟨B0 + 1 + 1, 0, none⟩ _ D (fun e => by
      have := (hm D hD).2
      simp only at e
      rw [e, ho] at this
      cases this
      cases hoc)).trans (hm D hD).2⟩, nd⟩
end
theorem RecAt.above {B L D : Nat} {A Z : World} {r : Loop} (h : RecAt A L D r) (k : Above B A Z) (hL : B ≤ L) (hD : B ≤ D) : RecAt Z L D r :=
  ⟨(k.keep L hL (Array.getElem?_eq_some_iff.1 h.1).1).trans h.1, (k.keep D hD (Array.getElem?_eq_some_iff.1 h.2).1).trans h.2⟩
/-- A function with marks among its deferred calls leaves. -/
theorem leaves_marks {F : Fence} {n : Nat} {P : Program} {fn : Func} {tmps : Array Value} {R : Ending → World → Prop} {B0 : Nat} (I : World → Prop)
    (hI : ∀ A D, I A → B0 ≤ D → A.heap[D]? = some (.deferred (some [])) → I (A.putObj D (.deferred none))) (hend : ∀ A, I A → LeavesInM F n P fn tmps R [] .returning A) :
    ∀ (ds : List Nat) (w : World), ds.Nodup → (∀ D ∈ ds, B0 ≤ D ∧ w.heap[D]? = some (.deferred (some []))) → I w → LeavesInM F n P fn tmps R (ds.map mk) .returning w
  | [], w, _, _, h => hend w h
  | d :: ds, w, hn, hm, h => by
    have hd := hm d (by simp)
    obtain ⟨h1, h2⟩ := List.nodup_cons.1 hn
    refine ⟨by simp, .inl ⟨d, _, rfl, run_takeDeferred hd.2, leaves_marks I hI hend ds _ h2 (fun D hD => ?_) (hI w d h hd.1 hd.2)⟩⟩
    exact ⟨(hm D (by simp [hD])).1, (World.putObj_heap_other (fun e => h1 (by rw [← e]; exact hD))).trans (hm D (by simp [hD])).2⟩
/-- The relay of the last seed is what begins a further lap. -/
theorem rlb_agn {K : Cfg} {xs : List Int} {f : Int} {k : Nat} (hk : k + 1 = cnt xs f) : rlb K.re (cx K.R xs f k) (K.R.at f k) = agn K.R xs f := by
  unfold agn rlb lst
  rw [← hk, Nat.add_sub_cancel]
  rfl
/-- Between two rounds of a lap. -/
structure LapJ (B0 : Nat) (K : Cfg) (l F : Nat) (ds : List Nat) (s : Stg) (JJ : Stg → Nat → World → Prop) (L D : Nat) (R : LoopState → Option Code → Loop) (k : Nat) (A : World) : Prop where
  jj : JJ s k A
  sw : ∃ la, StW A K s k la
  bx : BxS B0 K.b l F ds A
  rc : RecAt A L D (R .ready none)
  hj : 0 < k → s.j < 100
/-- Behind a lap's last round. -/
structure LapX (B0 : Nat) (K : Cfg) (l F : Nat) (ds : List Nat) (s : Stg) (JJ : Stg → Nat → World → Prop) (Jx : World → Prop) (L D : Nat) (R : LoopState → Option Code → Loop) (Z : World) : Prop where
  or : (Jx Z ∧ BxS B0 K.b l F ds Z ∧ RecAt Z L D (R .done (some .ret))) ∨
      (agn K.R s.xs s.f = false ∧ s.j < 100 ∧ JJ s s.n Z ∧ StW Z K s s.n (lst K.R s.xs s.f) ∧ BxS B0 K.b l F ds Z ∧ RecAt Z L D (R .done (some .ret))) ∨
      (agn K.R s.xs s.f = true ∧ s.j < 100 ∧ JJ s s.n Z ∧ StW Z K s s.n (lst K.R s.xs s.f) ∧ BxS B0 K.b l (lst K.R s.xs s.f) ds Z ∧ RecAt Z L D (R .done (some (.exit 1))))
end Go.Proofs.Ytdhkfkfoibddnaa
