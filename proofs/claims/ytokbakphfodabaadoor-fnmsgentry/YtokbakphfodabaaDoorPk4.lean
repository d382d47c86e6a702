/-
  Own texts, bundled: ArgBytes, MarkVote, OneOwn, InsBoxS, ExecOkS, RunMath, OkB, Flat, OwnBox, Own2, Grow.
-/
import Derived.Test.YtokbakphfodabaaDoorPk3
import Derived.ProofKit
import Derived.Test.YtokbakphfodabaaDoorPk2
import Derived.Test.YtokbakphfodabaaDoorPk1
import Derived.Deep.Cut
import Derived.BigQuiet
import Derived.Deep.QuietTactic
import Derived.OwnWalk
import Derived.Maps.AppendAt
namespace Go.Proofs.YtokbakphfodabaaDoor.Own
open Go.ChangeShapes Go.WideShapes Go.ChangeAt Go.RowKit

theorem addr_add (b off j : Nat) : (⟨b, off, none⟩ : Addr).add j = ⟨b, off + j, none⟩ := by unfold Addr.add; split <;> simp_all

theorem openBytes {H : Type} {enc : TypeId × Value → H} {W : World} {fuel : Nat} {a : Option Addr} {len cap : Nat} {x : DataW H × List MemPlace}
    (hf : DataW.trod enc Tryd.prog W 0 (fun _ => true) true fuel 22 [.slice a len cap] = some x) : Bytes W W.heap.size a len ∧ len ≤ cap ∧ cap ≤ maxLen := by
  rcases open_ints Tryd.underlying22 Tryd.underlying5 (by kernel_rfl) hf with ⟨hcs, _⟩ | ⟨ad, l, c, zs, hcs, _, hl, hm, hz, _, hcell, hwz⟩
  · simp at hcs
    obtain ⟨rfl, rfl, rfl⟩ := hcs
    exact ⟨.inl rfl, Nat.le_refl _, by unfold maxLen; omega⟩
  · simp at hcs
    obtain ⟨rfl, rfl, rfl⟩ := hcs
    refine ⟨?_, hl, hm⟩
    by_cases h0 : len = 0
    · exact .inl h0
    right
    have hz' : zs.length = cap := by simpa using hz
    obtain ⟨b, off, spot⟩ := ad
    have c0 := hcell 0 (by omega)
    have hspot : spot = none := by simpa [Addr.add] using World.cell?_spot c0
    subst hspot
    refine ⟨b, off, rfl, ?_, ?_⟩
    · rw [addr_add] at c0
      simp only [World.cell?] at c0
      cases hq : W.heap[b]? with
      | none => simp [hq] at c0
      | some o => exact (Array.getElem?_eq_some_iff.1 hq).1
    · intro i hi
      have hc := hcell i (by omega)
      rw [addr_add] at hc
      have hw := hwz (zs.getD i 0) (by simp [List.getD, show i < zs.length by omega])
      have hb : 0 ≤ zs.getD i 0 ∧ zs.getD i 0 ≤ 255 := by
        simpa [Lit.wf, IntKind.min, IntKind.max, IntKind.signed, IntKind.bits] using hw
      exact ⟨(zs.getD i 0).toNat, by omega, by rw [hc]; congr 2; omega⟩
end Go.Proofs.YtokbakphfodabaaDoor.Own

namespace Go.Proofs.YtokbakphfodabaaDoor.Own
open Go.RowKit
set_option linter.unusedVariables false
set_option linter.unusedSimpArgs false

/-- A vote's eight cells alone. -/
def C8 (w : World) (b o : Nat) (x : VM) : Prop := w.cell? ⟨b, o, none⟩ = some (.int .i64 x.bal) ∧ w.cell? ⟨b, o + 1, none⟩ = some (.bool x.b.n) ∧ w.cell? ⟨b, o + 2, none⟩ = some (.int .i64 x.b.p) ∧ w.cell? ⟨b, o + 3, none⟩ = some (.int .i64 x.b.q) ∧ w.cell? ⟨b, o + 4, none⟩ = some (.slice x.a1 x.b.xs.length x.c1) ∧ w.cell? ⟨b, o + 5, none⟩ = some (.slice x.a2 x.b.ys.length x.c2) ∧ w.cell? ⟨b, o + 6, none⟩ = some (.int .i64 x.b.v) ∧ w.cell? ⟨b, o + 7, none⟩ = some (.int .i64 x.b.k)
theorem C8.congr {w w' : World} {b o : Nat} {x : VM} (h : C8 w b o x) (e : ∀ i, i < 8 → w'.cell? ⟨b, o + i, none⟩ = w.cell? ⟨b, o + i, none⟩) : C8 w' b o x := by
  obtain ⟨h0, h1, h2, h3, h4, h5, h6, h7⟩ := h
  exact ⟨by have := e 0 (by omega); simpa using this.trans h0, (e 1 (by omega)).trans h1, (e 2 (by omega)).trans h2, (e 3 (by omega)).trans h3, (e 4 (by omega)).trans h4, (e 5 (by omega)).trans h5, (e 6 (by omega)).trans h6, (e 7 (by omega)).trans h7⟩
/-- The block of a list that is not empty. -/
def blkOf (a : Option Addr) (n : Nat) : Option Nat := if n = 0 then none else a.map fun p => p.block
theorem OnlyB.heap {a : Option Addr} {xs : List P2} {w w' : World} (h : OnlyB a xs w w') {b : Nat} (hb : blkOf a xs.length ≠ some b) : w'.heap[b]? = w.heap[b]? := by
  rcases h with ⟨_, rfl⟩ | ⟨g, hne, rfl, h⟩
  · rfl
  · refine h.block b fun e => hb ?_
    have : xs.length ≠ 0 := fun h0 => hne (List.eq_nil_of_length_eq_zero h0)
    simp [blkOf, this, e]
theorem OnlyB.size {a : Option Addr} {xs : List P2} {w w' : World} (h : OnlyB a xs w w') : w'.heap.size = w.heap.size := by
  rcases h with ⟨_, rfl⟩ | ⟨g, hne, rfl, h⟩
  · rfl
  · exact h.size
theorem OwnB.blk {w w' : World} {B : Nat} {a : Option Addr} {xs : List P2} (h : OwnB w B a xs) (hs : w'.heap.size = w.heap.size) (hb : ∀ b, blkOf a xs.length = some b → w'.heap[b]? = w.heap[b]?) : OwnB w' B a xs := by
  rcases h with h | ⟨g, rfl, hB, h, hf⟩
  · exact .inl h
  · by_cases h0 : xs = []
    · exact .inl h0
    · have hl : xs.length ≠ 0 := fun e => h0 (List.eq_nil_of_length_eq_zero e)
      have e := hb g (by simp [blkOf, hl])
      exact .inr ⟨g, rfl, hB, h.block (Nat.le_of_eq hs.symm) e, fun o => by rw [World.frozen?_of_block (w := w) (a := ⟨g, o, none⟩) e]; exact hf o⟩
/-- The blocks of a vote's lists. -/
def blk1 (x : VM) : Option Nat := blkOf x.a1 x.b.xs.length
def blk2 (x : VM) : Option Nat := blkOf x.a2 x.b.ys.length
/-- All lists lie apart, and none in block g. -/
structure Sep (g : Nat) (vs : List VM) : Prop where
  one : ∀ i, i < vs.length → blk1 (vs.getD i v0) ≠ some g ∧ blk2 (vs.getD i v0) ≠ some g
  two : ∀ i, i < vs.length → ∀ b, blk1 (vs.getD i v0) = some b → blk2 (vs.getD i v0) ≠ some b
  all : ∀ i j, i < vs.length → j < vs.length → i ≠ j → ∀ b, (blk1 (vs.getD i v0) = some b ∨ blk2 (vs.getD i v0) = some b) → blk1 (vs.getD j v0) ≠ some b ∧ blk2 (vs.getD j v0) ≠ some b
/-- Votes in memory of one's own, from block B on: the list in block g. -/
structure OwnVs (w : World) (B g : Nat) (vs : List VM) : Prop where
  lt : g < w.heap.size
  lo : B ≤ g
  fr : ∀ o, w.frozen? ⟨g, o, none⟩ = false
  cell : ∀ i, i < vs.length → C8 w g (i * 8) (vs.getD i v0)
  own : ∀ i, i < vs.length → OwnB w B (vs.getD i v0).a1 (vs.getD i v0).b.xs ∧ OwnB w B (vs.getD i v0).a2 (vs.getD i v0).b.ys
theorem OwnVs.at {w : World} {B g : Nat} {vs : List VM} (h : OwnVs w B g vs) : VAt w g 0 vs :=
  ⟨h.lt, fun i hi => ⟨by rw [Nat.zero_add]; exact h.cell i hi, (h.own i hi).1.sl, (h.own i hi).2.sl⟩⟩
/-- How many numbers the marks of a vote take. -/
def stepV (x : VM) : Nat := 6 + 2 * x.b.xs.length + 2 * x.b.ys.length
def stepsV (vs : List VM) : Nat → Nat
  | 0 => 0
  | k + 1 => stepsV vs k + stepV (vs.getD k v0)
/-- A vote, marked from k on. -/
def markedV (k : Int) (x : VM) : VM := { x with bal := k, b := ⟨(k + 1) % 3 == 0, k + 2, k + 3, marks (k + 4) x.b.xs.length, marks (k + 4 + 2 * x.b.xs.length) x.b.ys.length, k + 4 + 2 * x.b.xs.length + 2 * x.b.ys.length, k + 5 + 2 * x.b.xs.length + 2 * x.b.ys.length⟩ }
/-- The first j votes are marked. -/
def mixV (k0 : Int) (vs : List VM) (j : Nat) : List VM := (List.range vs.length).map fun i => if i < j then markedV (k0 + (stepsV vs i : Nat)) (vs.getD i v0) else vs.getD i v0
theorem mixV_len (k0 : Int) (vs : List VM) (j : Nat) : (mixV k0 vs j).length = vs.length := by simp [mixV]
theorem mixV_at (k0 : Int) (vs : List VM) (j : Nat) {i : Nat} (hi : i < vs.length) : (mixV k0 vs j).getD i v0 = if i < j then markedV (k0 + (stepsV vs i : Nat)) (vs.getD i v0) else vs.getD i v0 := by simp [mixV, List.getD, hi]
theorem mixV_zero (k0 : Int) (vs : List VM) : mixV k0 vs 0 = vs := by
  apply List.ext_getElem
  · simp [mixV]
  · intro i h1 h2
    simp [mixV, List.getD, h2]
theorem marked_blk (k : Int) (x : VM) : blk1 (markedV k x) = blk1 x ∧ blk2 (markedV k x) = blk2 x := by
  simp [blk1, blk2, markedV, marks_length]
theorem mix_blk (k0 : Int) (vs : List VM) (j : Nat) {i : Nat} (hi : i < vs.length) : blk1 ((mixV k0 vs j).getD i v0) = blk1 (vs.getD i v0) ∧ blk2 ((mixV k0 vs j).getD i v0) = blk2 (vs.getD i v0) := by
  rw [mixV_at _ _ _ hi]
  split
  · exact marked_blk _ _
  · exact ⟨rfl, rfl⟩
theorem Sep.mix {g : Nat} {vs : List VM} (h : Sep g vs) (k0 : Int) (j : Nat) : Sep g (mixV k0 vs j) := by
  refine ⟨fun i hi => ?_, fun i hi b => ?_, fun i l hi hl hne b => ?_⟩
  · rw [mixV_len] at hi; rw [(mix_blk k0 vs j hi).1, (mix_blk k0 vs j hi).2]; exact h.one i hi
  · rw [mixV_len] at hi; rw [(mix_blk k0 vs j hi).1, (mix_blk k0 vs j hi).2]; exact h.two i hi b
  · rw [mixV_len] at hi hl; rw [(mix_blk k0 vs j hi).1, (mix_blk k0 vs j hi).2, (mix_blk k0 vs j hl).1, (mix_blk k0 vs j hl).2]; exact h.all i l hi hl hne b

/-- A world in which the cells o .. o + 7 of block g alone may have turned, and a vote's lists. -/
structure OneV (g j : Nat) (x : VM) (w w' : World) : Prop where
  size : w'.heap.size = w.heap.size
  os : w'.os = w.os
  tape : w'.tape = w.tape
  output : w'.output = w.output
  block : ∀ b, b ≠ g → blk1 x ≠ some b → blk2 x ≠ some b → w'.heap[b]? = w.heap[b]?
  cells : ∀ o, (o < j * 8 ∨ j * 8 + 7 < o) → w'.cell? ⟨g, o, none⟩ = w.cell? ⟨g, o, none⟩
  fr : ∀ o, w'.frozen? ⟨g, o, none⟩ = w.frozen? ⟨g, o, none⟩
theorem OneV.refl (g j : Nat) (x : VM) (w : World) : OneV g j x w w := ⟨rfl, rfl, rfl, rfl, fun _ _ _ _ => rfl, fun _ _ => rfl, fun _ => rfl⟩
theorem OneV.trans {g j : Nat} {x : VM} {a b c : World} (h : OneV g j x a b) (k : OneV g j x b c) : OneV g j x a c :=
  ⟨k.size.trans h.size, k.os.trans h.os, k.tape.trans h.tape, k.output.trans h.output, fun n h1 h2 h3 => (k.block n h1 h2 h3).trans (h.block n h1 h2 h3), fun o ho => (k.cells o ho).trans (h.cells o ho), fun o => (k.fr o).trans (h.fr o)⟩
theorem OneV.set (g j : Nat) (x : VM) (w : World) (o : Nat) (ho : j * 8 ≤ o ∧ o ≤ j * 8 + 7) (v : Value) : OneV g j x w (w.setCell ⟨g, o, none⟩ v) :=
  ⟨by simp [World.setCell], rfl, rfl, rfl, fun b hb _ _ => Below.heap_setCell _ _ _ _ hb, fun o' h => setCell_cell_other _ _ _ _ _ (by omega), fun o' => by simp⟩
theorem OnlyB.facts {a : Option Addr} {xs : List P2} {w w' : World} (h : OnlyB a xs w w') : w'.os = w.os ∧ w'.tape = w.tape ∧ w'.output = w.output := by
  rcases h with ⟨_, rfl⟩ | ⟨g, hne, rfl, h⟩
  · exact ⟨rfl, rfl, rfl⟩
  · exact ⟨h.os, h.tape, h.output⟩
theorem OneV.of1 {g j : Nat} {x : VM} {w w' : World} (h : OnlyB x.a1 x.b.xs w w') (hg : blk1 x ≠ some g) : OneV g j x w w' :=
  ⟨h.size, h.facts.1, h.facts.2.1, h.facts.2.2, fun b _ h1 _ => h.heap h1, fun o _ => World.cell?_of_block (w := w) (a := ⟨g, o, none⟩) (h.heap hg), fun o => World.frozen?_of_block (w := w) (a := ⟨g, o, none⟩) (h.heap hg)⟩
theorem OneV.of2 {g j : Nat} {x : VM} {w w' : World} (h : OnlyB x.a2 x.b.ys w w') (hg : blk2 x ≠ some g) : OneV g j x w w' :=
  ⟨h.size, h.facts.1, h.facts.2.1, h.facts.2.2, fun b _ _ h2 => h.heap h2, fun o _ => World.cell?_of_block (w := w) (a := ⟨g, o, none⟩) (h.heap hg), fun o => World.frozen?_of_block (w := w) (a := ⟨g, o, none⟩) (h.heap hg)⟩

/-- One vote more is marked. -/
theorem mv_step {w w' : World} {B g j : Nat} {k0 : Int} {vs : List VM} (h : OwnVs w B g (mixV k0 vs j)) (sep : Sep g vs) (hj : j < vs.length) (ho : OneV g j (vs.getD j v0) w w') (hc : C8 w' g (j * 8) (markedV (k0 + (stepsV vs j : Nat)) (vs.getD j v0))) (h1 : OwnB w' B (vs.getD j v0).a1 (markedV (k0 + (stepsV vs j : Nat)) (vs.getD j v0)).b.xs) (h2 : OwnB w' B (vs.getD j v0).a2 (markedV (k0 + (stepsV vs j : Nat)) (vs.getD j v0)).b.ys) : OwnVs w' B g (mixV k0 vs (j + 1)) := by
  have atO : ∀ i, i < vs.length → i ≠ j → (mixV k0 vs (j + 1)).getD i v0 = (mixV k0 vs j).getD i v0 := fun i hi hne => by
    rw [mixV_at _ _ _ hi, mixV_at _ _ _ hi]
    by_cases hl : i < j
    · rw [if_pos hl, if_pos (by omega)]
    · rw [if_neg hl, if_neg (by omega)]
  have atJ : (mixV k0 vs (j + 1)).getD j v0 = markedV (k0 + (stepsV vs j : Nat)) (vs.getD j v0) := by rw [mixV_at _ _ _ hj, if_pos (by omega)]
  refine ⟨by rw [ho.size]; exact h.lt, h.lo, fun o => by rw [ho.fr]; exact h.fr o, fun i hi => ?_, fun i hi => ?_⟩
  · rw [mixV_len] at hi
    by_cases e : i = j
    · subst e; rw [atJ]; exact hc
    · rw [atO i hi e]
      exact (h.cell i (by rw [mixV_len]; exact hi)).congr fun l hl => ho.cells _ (by omega)
  · rw [mixV_len] at hi
    by_cases e : i = j
    · subst e; rw [atJ]; exact ⟨h1, h2⟩
    · rw [atO i hi e]
      have o := h.own i (by rw [mixV_len]; exact hi)
      have m := mix_blk k0 vs j hi
      have keep : ∀ b, (blk1 (vs.getD i v0) = some b ∨ blk2 (vs.getD i v0) = some b) → w'.heap[b]? = w.heap[b]? := fun b hb => by
        have s := sep.all i j hi hj e b hb
        refine ho.block b (fun eg => ?_) s.1 s.2
        have s1 := sep.one i hi
        rw [eg] at hb
        rcases hb with hb | hb
        · exact s1.1 hb
        · exact s1.2 hb
      exact ⟨o.1.blk ho.size fun b hb => keep b (.inl (by rw [← m.1]; exact hb)), o.2.blk ho.size fun b hb => keep b (.inr (by rw [← m.2]; exact hb))⟩
end Go.Proofs.YtokbakphfodabaaDoor.Own

namespace Go.Proofs.YtokbakphfodabaaDoor.Own
open Go.RowKit
set_option linter.unusedVariables false

/-- An entry's seven cells. -/
def VM.ecells (x : VM) : Array Value := #[.bool x.b.n, .int .i64 x.b.p, .int .i64 x.b.q, .slice x.a1 x.b.xs.length x.c1, .slice x.a2 x.b.ys.length x.c2, .int .i64 x.b.v, .int .i64 x.b.k]
/-- A vote that a call made: its lists from block B on, apart, and of a room that holds them. -/
structure OneOwn (w : World) (B : Nat) (y : VM) : Prop where
  l1 : OwnB w B y.a1 y.b.xs
  l2 : OwnB w B y.a2 y.b.ys
  c1 : y.b.xs.length ≤ y.c1
  c2 : y.b.ys.length ≤ y.c2
  b1 : ∀ b, blk1 y = some b → B ≤ b ∧ b < w.heap.size
  b2 : ∀ b, blk2 y = some b → B ≤ b ∧ b < w.heap.size
  ap : ∀ b, blk1 y = some b → blk2 y ≠ some b

theorem OneOwn.blkV {w w' : World} {B : Nat} {y : VM} (h : OneOwn w B y) (hs : w.heap.size ≤ w'.heap.size) (hb : ∀ b, (blk1 y = some b ∨ blk2 y = some b) → w'.heap[b]? = w.heap[b]?) : OneOwn w' B y := by
  have f : ∀ (a : Option Addr) (xs : List P2), OwnB w B a xs → (∀ b, blkOf a xs.length = some b → w'.heap[b]? = w.heap[b]?) → OwnB w' B a xs := fun a xs h hb => by
    rcases h with h | ⟨g, rfl, hB, h, hf⟩
    · exact .inl h
    · by_cases h0 : xs = []
      · exact .inl h0
      · have hl : xs.length ≠ 0 := fun e => h0 (List.eq_nil_of_length_eq_zero e)
        have e := hb g (by simp [blkOf, hl])
        exact .inr ⟨g, rfl, hB, h.block hs e, fun o => by rw [World.frozen?_of_block (w := w) (a := ⟨g, o, none⟩) e]; exact hf o⟩
  exact ⟨f _ _ h.l1 fun b e => hb b (.inl e), f _ _ h.l2 fun b e => hb b (.inr e), h.c1, h.c2, fun b e => ⟨(h.b1 b e).1, Nat.lt_of_lt_of_le (h.b1 b e).2 hs⟩, fun b e => ⟨(h.b2 b e).1, Nat.lt_of_lt_of_le (h.b2 b e).2 hs⟩, h.ap⟩
theorem OneOwn.low {w : World} {B B' : Nat} {y : VM} (h : OneOwn w B y) (hB : B' ≤ B) : OneOwn w B' y :=
  ⟨h.l1.weaken hB, h.l2.weaken hB, h.c1, h.c2, fun b e => ⟨Nat.le_trans hB (h.b1 b e).1, (h.b1 b e).2⟩, fun b e => ⟨Nat.le_trans hB (h.b2 b e).1, (h.b2 b e).2⟩, h.ap⟩
end Go.Proofs.YtokbakphfodabaaDoor.Own

namespace Go.Proofs.YtokbakphfodabaaDoor.Own
open Go.RowKit
set_option linter.unusedVariables false
set_option linter.unusedSimpArgs false

set_option maxHeartbeats 400000 in
theorem l2Box (n : Int) (w : World) : Calls Tryd.prog 74 #[.int .i64 n] w fun e w' => e = .returned (.bool (regOk n)) ∧ w' = w := by
  have e : Hid (regOk n = (decide (0 ≤ n) && decide (n ≤ 3))) := rfl
  generalize regOk n = r at e ⊢
  by_cases h1 : 0 ≤ n
  · by_cases h2 : n < 4
    all_goals
      go_enter Tryd.func74, Tryd.ntmps74
      go_wp2
      go_ret
      exact ⟨ret_bool (by rw [e.out]; simp [h1]; omega), rfl⟩
  · have h1' : n < 0 := by omega
    go_enter Tryd.func74, Tryd.ntmps74
    go_wp2
    go_ret
    exact ⟨ret_bool (by rw [e.out]; simp; omega), rfl⟩


set_option maxHeartbeats 400000 in
theorem l1Num2 (n : Int) (w : World) : Calls Tryd.prog 45 #[.int .i64 n] w fun e w' => e = .returned (.bool (numOk2 n)) ∧ w' = w := by
  have e : Hid (numOk2 n = (decide (-1000000 ≤ n) && decide (n ≤ 1000000))) := rfl
  generalize numOk2 n = r at e ⊢
  by_cases h1 : -1000000 ≤ n
  · by_cases h2 : n ≤ 1000000
    all_goals
      go_enter Tryd.func45, Tryd.ntmps45
      go_wp2
      go_ret
      exact ⟨ret_bool (by rw [e.out]; simp [h1, h2]), rfl⟩
  · have h1' : n < -1000000 := by omega
    go_enter Tryd.func45, Tryd.ntmps45
    go_wp2
    go_ret
    exact ⟨ret_bool (by rw [e.out]; simp; omega), rfl⟩

end Go.Proofs.YtokbakphfodabaaDoor.Own

namespace Go.Proofs.YtokbakphfodabaaDoor.Own
open Go.RowKit
set_option linter.unusedVariables false
set_option linter.unusedSimpArgs false

theorem any_take_succP {xs : List P2} {k : Nat} (n : Int) (h : k < xs.length) : ((xs.take (k + 1)).any fun p => p.1 == n) = (((xs.take k).any fun p => p.1 == n) || (xs.getD k (0, 0)).1 == n) := by
  rw [List.take_succ_eq_append_getElem h, List.any_append]
  simp [List.getD, h]
theorem any_at {xs : List P2} {k : Nat} {n : Int} (h : k < xs.length) (e : ((xs.getD k (0, 0)).1 == n) = true) : (xs.any fun p => p.1 == n) = true := by
  rw [List.any_eq_true]
  exact ⟨xs.getD k (0, 0), by simp [List.getD, h], e⟩

set_option maxRecDepth 100000 in
set_option maxHeartbeats 1000000 in
theorem l3Saw (a : Option Addr) (c n : Nat) (xs : List P2) (z : Int) (w : World) (h : Sl w a xs) (hl : xs.length = n) (hn : n ≤ 2 ^ 40) :
    Calls Tryd.prog 75 #[.slice a n c, .int .i64 z] w fun e w' => e = .returned (.bool (xs.any fun p => p.1 == z)) ∧ w' = w := by
  subst hl
  have H1 : Hid (Sl w a xs) := h
  clear h
  go_enter Tryd.func75, Tryd.ntmps75
  go_wp2
  go_loop [5] (fun i => ∃ k : Nat, k ≤ xs.length ∧ i = .int .i64 k ∧ Hid (((xs.take k).any fun p => p.1 == z) = false)) (fun i => xs.length - (intOf i).toNat)
  case atStart => exact ⟨0, Nat.zero_le _, rfl, rfl⟩
  case round =>
    obtain ⟨k, hk, rfl, hA⟩ := hrel
    by_cases hlt : k < xs.length
    · rcases H1.out with h | ⟨b1, o1, rfl, h1⟩
      · subst h; simp at hlt
      obtain ⟨ca, cb⟩ := h1.2 k hlt
      have HT : Hid (((xs.take (k + 1)).any fun p => p.1 == z) = (((xs.take k).any fun p => p.1 == z) || (xs.getD k (0, 0)).1 == z)) := any_take_succP z hlt
      have HY : Hid (((xs.getD k (0, 0)).1 == z) = true → (xs.any fun p => p.1 == z) = true) := any_at hlt
      obtain ⟨p, hp⟩ : ∃ p, p = (xs.getD k (0, 0)).1 := ⟨_, rfl⟩
      rw [← hp] at ca
      have HP : Hid (p = (xs.getD k (0, 0)).1) := hp
      clear hp h1 cb
      cases t : (p == z) with
      | true =>
        have Y : Hid ((xs.any fun p => p.1 == z) = true) := HY.out (by rw [← HP.out]; exact t)
        clear HY HT
        go_wp2
        go_ret
        exact ⟨ret_bool Y.out.symm, rfl⟩
      | false =>
        have N : Hid (((xs.take (k + 1)).any fun p => p.1 == z) = false) := by show _ = _; rw [HT.out, hA.out, ← HP.out, t]; rfl
        clear HY HT
        go_wp2
        go_round
        case rel => exact ⟨k + 1, by omega, by go_num, N⟩
        case measure => simp [intOf]; omega
    · go_wp2
      go_ret
      have : k = xs.length := by omega
      subst this
      have h := hA.out
      rw [List.take_length] at h
      exact ⟨ret_bool h.symm, rfl⟩

/-- The place of a box among what is put, or -1. -/
def placeOf (xs : List P2) (z : Int) : Int := if (xs.any fun p => p.1 == z) then ((xs.findIdx fun p => p.1 == z) : Nat) else -1

theorem placeOf_at {xs : List P2} {k : Nat} {z : Int} (h : k < xs.length) (e : ((xs.getD k (0, 0)).1 == z) = true) (h0 : ((xs.take k).any fun p => p.1 == z) = false) : placeOf xs z = k := by
  unfold placeOf
  rw [if_pos (any_at h e)]
  have : xs.findIdx (fun p => p.1 == z) = k := by
    rw [List.findIdx_eq h]
    refine ⟨by simpa [List.getD, h] using e, fun j hj => ?_⟩
    rw [List.any_eq_false] at h0
    have := h0 (xs[j]'(by omega)) (by rw [List.mem_take_iff_getElem]; exact ⟨j, by omega, rfl⟩)
    simpa using this
  rw [this]
theorem placeOf_none {xs : List P2} {z : Int} (h : (xs.any fun p => p.1 == z) = false) : placeOf xs z = -1 := by
  simp [placeOf, h]
theorem placeOf_neg (xs : List P2) (z : Int) : decide (placeOf xs z ≥ 0) = (xs.any fun p => p.1 == z) := by
  unfold placeOf
  cases h : (xs.any fun p => p.1 == z) with
  | true => simp
  | false => simp

set_option maxRecDepth 100000 in
set_option maxHeartbeats 1000000 in
theorem l3At (a : Option Addr) (c n : Nat) (xs : List P2) (z : Int) (w : World) (h : Sl w a xs) (hl : xs.length = n) (hn : n ≤ 2 ^ 40) :
    Calls Tryd.prog 76 #[.slice a n c, .int .i64 z] w fun e w' => e = .returned (.int .i64 (placeOf xs z)) ∧ w' = w := by
  subst hl
  have H1 : Hid (Sl w a xs) := h
  clear h
  go_enter Tryd.func76, Tryd.ntmps76
  go_wp2
  go_loop [5] (fun i => ∃ k : Nat, k ≤ xs.length ∧ i = .int .i64 k ∧ Hid (((xs.take k).any fun p => p.1 == z) = false)) (fun i => xs.length - (intOf i).toNat)
  case atStart => exact ⟨0, Nat.zero_le _, rfl, rfl⟩
  case round =>
    obtain ⟨k, hk, rfl, hA⟩ := hrel
    by_cases hlt : k < xs.length
    · rcases H1.out with h | ⟨b1, o1, rfl, h1⟩
      · subst h; simp at hlt
      obtain ⟨ca, cb⟩ := h1.2 k hlt
      have HT : Hid (((xs.take (k + 1)).any fun p => p.1 == z) = (((xs.take k).any fun p => p.1 == z) || (xs.getD k (0, 0)).1 == z)) := any_take_succP z hlt
      have HY : Hid (((xs.getD k (0, 0)).1 == z) = true → placeOf xs z = k) := fun e => placeOf_at hlt e hA.out
      obtain ⟨p, hp⟩ : ∃ p, p = (xs.getD k (0, 0)).1 := ⟨_, rfl⟩
      rw [← hp] at ca
      have HP : Hid (p = (xs.getD k (0, 0)).1) := hp
      clear hp h1 cb
      cases t : (p == z) with
      | true =>
        have Y : Hid (placeOf xs z = k) := HY.out (by rw [← HP.out]; exact t)
        clear HY HT
        go_wp2
        go_ret
        exact ⟨ret_int Y.out.symm, rfl⟩
      | false =>
        have N : Hid (((xs.take (k + 1)).any fun p => p.1 == z) = false) := by show _ = _; rw [HT.out, hA.out, ← HP.out, t]; rfl
        clear HY HT
        go_wp2
        go_round
        case rel => exact ⟨k + 1, by omega, by go_num, N⟩
        case measure => simp [intOf]; omega
    · go_wp2
      go_ret
      have : k = xs.length := by omega
      subst this
      have h := hA.out
      rw [List.take_length] at h
      exact ⟨ret_int (placeOf_none h).symm, rfl⟩
end Go.Proofs.YtokbakphfodabaaDoor.Own

namespace Go.Proofs.YtokbakphfodabaaDoor.Own
open Go.RowKit

/-- A run under way: the registers, what it looked into, what it would put, its code. -/
structure RunSt where
  regs : List Int
  reads : List P2
  puts : List P2
  code : Int

def hasBox (ys : List P2) (j : Nat) : Bool := ys.any fun p => p.1 == (j : Int)
def idxBox (ys : List P2) (j : Nat) : Nat := ys.findIdx fun p => p.1 == (j : Int)
/-- What is in a box for a run. -/
def inBox (bs ys : List P2) (j : Nat) : Int := if hasBox ys j then (ys.getD (idxBox ys j) (0, 0)).2 else (bs.getD j (0, 0)).2
/-- What it has looked into, when it has looked there. -/
def lookR (bs xs ys : List P2) (j : Nat) : List P2 := if hasBox ys j then xs else if hasBox xs j then xs else xs ++ [((j : Int), (bs.getD j (0, 0)).1)]
/-- What it would put, when n is put there. -/
def putP (ys : List P2) (j : Nat) (n : Int) : List P2 := if hasBox ys j then ys.set (idxBox ys j) ((ys.getD (idxBox ys j) (0, 0)).1, n) else ys ++ [((j : Int), n)]

def setReg (s : RunSt) (a : Nat) (n : Int) : RunSt := { s with regs := s.regs.set a n, code := if numOk n then s.code else 2 }
/-- An instruction that is no ProgLess. -/
def stepR (bs : List P2) (s : RunSt) (p : Q4) : RunSt :=
  if p.1 = 1 then setReg { s with reads := lookR bs s.reads s.puts p.2.2.1.toNat } p.2.1.toNat (inBox bs s.puts p.2.2.1.toNat)
  else if p.1 = 2 then { s with puts := putP s.puts p.2.1.toNat (s.regs.getD p.2.2.1.toNat 0) }
  else if p.1 = 3 then setReg s p.2.1.toNat p.2.2.2
  else if p.1 = 4 then setReg s p.2.1.toNat (s.regs.getD p.2.1.toNat 0 + s.regs.getD p.2.2.1.toNat 0)
  else if p.1 = 5 then setReg s p.2.1.toNat (s.regs.getD p.2.1.toNat 0 - s.regs.getD p.2.2.1.toNat 0)
  else { s with code := 1 }
/-- A run from instruction k on. -/
def runR (bs : List P2) (xs : List Q4) (k : Nat) (s : RunSt) : RunSt :=
  if h : k < xs.length then
    if s.code = 0 then
      if (xs.getD k q0).1 = 6 then
        if s.regs.getD (xs.getD k q0).2.1.toNat 0 < s.regs.getD (xs.getD k q0).2.2.1.toNat 0 then runR bs xs (k + (xs.getD k q0).2.2.2.toNat + 1) s else runR bs xs (k + 1) s
      else runR bs xs (k + 1) (stepR bs s (xs.getD k q0))
    else s
  else s
termination_by xs.length - k

structure RunOut where
  reads : List P2
  puts : List P2
  val : Int
  code : Int
def outR (s : RunSt) : RunOut := if s.code = 0 then ⟨s.reads, s.puts, s.regs.getD 0 0, 0⟩ else ⟨s.reads, [], 0, s.code⟩
def initR : RunSt := ⟨[0, 0, 0, 0], [], [], 0⟩
/-- What a run says. -/
def execRun (bs : List P2) (xs : List Q4) : RunOut := if boxOk bs && progOk xs then outR (runR bs xs 0 initR) else ⟨[], [], 0, 3⟩

theorem place_idx (ys : List P2) (j : Nat) (h : hasBox ys j = true) : placeOf ys (j : Int) = ((idxBox ys j : Nat) : Int) ∧ idxBox ys j < ys.length := by
  refine ⟨if_pos h, ?_⟩
  unfold hasBox at h
  rw [List.any_eq_true] at h
  obtain ⟨x, hx, hp⟩ := h
  exact List.findIdx_lt_length_of_exists ⟨x, hx, hp⟩
theorem place_no (ys : List P2) (j : Nat) (h : hasBox ys j = false) : placeOf ys (j : Int) = -1 := placeOf_none h
end Go.Proofs.YtokbakphfodabaaDoor.Own

namespace Go.Proofs.YtokbakphfodabaaDoor.Own
open Go.RowKit

set_option maxRecDepth 100000 in
set_option maxHeartbeats 1000000 in
theorem specOk (a : Option Addr) (c : Nat) (xs : List (Int × Int)) (w : World) (h : Sl w a xs) (hn : xs.length ≤ 2 ^ 40) :
    Calls Tryd.prog 30 #[.slice a xs.length c] w fun e w' => e = .returned (.bool (boxOk xs)) ∧ w' = w := by
  have e : Hid (boxOk xs = (xs.length == 4 && xs.all boxOk1)) := rfl
  have H1 : Hid (Sl w a xs) := h
  clear h
  by_cases hl : xs.length = 4
  · have hl' : ((xs.length : Int) != 4) = false := by simp [hl]
    have HL : Hid (xs.length = 4) := hl
    clear hl
    go_enter Tryd.func30, Tryd.ntmps30
    go_wp2
    go_loop [3] (fun i => ∃ k : Nat, k ≤ xs.length ∧ i = .int .i64 k ∧ Hid ((xs.take k).all boxOk1 = true)) (fun i => xs.length - (intOf i).toNat)
    case atStart => exact ⟨0, Nat.zero_le _, rfl, rfl⟩
    case round =>
      obtain ⟨k, hk, rfl, hA⟩ := hrel
      by_cases hlt : k < xs.length
      · rcases H1.out with h | ⟨b1, o1, rfl, h1⟩
        · subst h; simp at hlt
        obtain ⟨p, hp⟩ : ∃ p, p = xs.getD k (0, 0) := ⟨_, rfl⟩
        have ca := (h1.2 k hlt).1
        have cb := (h1.2 k hlt).2
        rw [← hp] at ca cb
        have HP : Hid (p = xs.getD k (0, 0)) := hp
        clear hp h1
        obtain ⟨p1, p2⟩ := p
        have fin : boxOk1 (p1, p2) = false → Hid (boxOk xs = false) := by
          intro h
          show boxOk xs = false
          rw [e.out, all_false (0, 0) hlt (by rw [← HP.out]; exact h)]; simp
        by_cases t1 : p1 < 0
        · have F := fin (by simp [boxOk1, show ¬ 0 ≤ p1 by omega])
          clear fin
          go_wp2
          go_ret
          exact ⟨ret_bool F.out.symm, rfl⟩
        · by_cases t2 : 1000000 < p1
          · have F := fin (by simp [boxOk1, show ¬ p1 ≤ 1000000 by omega])
            clear fin
            go_wp2
            go_ret
            exact ⟨ret_bool F.out.symm, rfl⟩
          · by_cases t3 : numOk p2 = true
            · have N : Hid ((xs.take (k + 1)).all boxOk1 = true) := by
                show _ = true
                rw [all_take_succ (0, 0) hlt, hA.out, ← HP.out]
                simp [boxOk1, t3]; omega
              clear fin
              go_wp2_with (go_at_call 45; refine (l1Num _ _).mono ?_; rintro e w' ⟨rfl, rfl⟩)
              go_round
              case rel => exact ⟨k + 1, by omega, by go_num, N⟩
              case measure => simp [intOf]; omega
            · have t3' : numOk p2 = false := by simpa using t3
              have F := fin (by simp [boxOk1, t3'])
              clear fin t3
              go_wp2_with (go_at_call 45; refine (l1Num _ _).mono ?_; rintro e w' ⟨rfl, rfl⟩)
              go_ret
              exact ⟨ret_bool F.out.symm, rfl⟩
      · go_wp2
        go_ret
        have : k = xs.length := by omega
        subst this
        refine ⟨ret_bool ?_, rfl⟩
        have h := hA.out
        rw [List.take_length] at h
        rw [e.out, h, HL.out]; rfl
  · have hl' : ((xs.length : Int) != 4) = true := by simp; omega
    go_enter Tryd.func30, Tryd.ntmps30
    go_wp2
    go_ret
    refine ⟨ret_bool ?_, rfl⟩
    rw [e.out]; simp [hl]
end Go.Proofs.YtokbakphfodabaaDoor.Own

namespace Go.Proofs.YtokbakphfodabaaDoor.Own
open Go.RowKit
set_option linter.unusedVariables false

def flat (xs : List (Int × Int)) : List Value := xs.flatMap fun p => [.int .i64 p.1, .int .i64 p.2]
theorem flat_length (xs : List (Int × Int)) : (flat xs).length = xs.length * 2 := by
  induction xs with
  | nil => rfl
  | cons p r ih => simp [flat] at ih ⊢; omega
theorem flat_one (xs : List (Int × Int)) : ∀ v ∈ flat xs, v.oneCell' = true := by
  intro v hv
  simp [flat] at hv
  obtain ⟨a, b, _, h⟩ := hv
  rcases h with rfl | rfl <;> rfl
theorem flat_even (xs : List (Int × Int)) (i : Nat) (h : i < xs.length) : (flat xs)[i * 2]? = some (.int .i64 (xs.getD i (0, 0)).1) ∧ (flat xs)[i * 2 + 1]? = some (.int .i64 (xs.getD i (0, 0)).2) := by
  induction xs generalizing i with
  | nil => simp at h
  | cons p r ih =>
    cases i with
    | zero => simp [flat]
    | succ i =>
      have := ih i (by simpa using h)
      simp only [flat, List.flatMap_cons] at this ⊢
      rw [show (i + 1) * 2 = i * 2 + 2 by omega, show i * 2 + 2 + 1 = i * 2 + 1 + 2 by omega]
      simpa using this
end Go.Proofs.YtokbakphfodabaaDoor.Own

namespace Go.Proofs.YtokbakphfodabaaDoor.Own
open Go.RowKit

theorem owned_box {w : World} {base m : Nat} {v : Value} {xs : List (Int × Int)} (h : w.ownsRow base 86 2 v m (flat xs)) (hm : 0 < m) :
    ∃ g cap, v = .slice (some ⟨g, 0, none⟩) m cap ∧ base ≤ g ∧ m ≤ cap ∧ BoxAt w g 0 xs ∧ (∀ o, w.frozen? ⟨g, o, none⟩ = false) := by
  obtain ⟨hl, h⟩ := h
  rcases h with ⟨_, h0⟩ | ⟨g, cap, cur, hv, hb, hh, hmc, _, hsz, htk⟩
  · omega
  refine ⟨g, cap, hv, hb, hmc, ⟨(Array.getElem?_eq_some_iff.1 hh).1, fun i hi => ?_⟩, fun o => frozen_heap hh o⟩
  have e := flat_even xs i hi
  rw [flat_length] at hl
  rw [← htk] at e
  rw [cell_heap hh, cell_heap hh, Nat.zero_add]
  rw [List.getElem?_take_of_lt (by omega), List.getElem?_take_of_lt (by omega)] at e
  simpa using e

theorem flat_at0 {w : World} {b : Nat} {xs : List (Int × Int)} (h : BoxAt w b 0 xs) (j : Nat) (v : Value) (hv : (flat xs)[j]? = some v) : w.cell? ((⟨b, 0, none⟩ : Addr).add j) = some v := by
  have e : (⟨b, 0, none⟩ : Addr).add j = ⟨b, j, none⟩ := by unfold Addr.add; split <;> simp_all
  have hl : j < (flat xs).length := (List.getElem?_eq_some_iff.1 hv).1
  rw [flat_length] at hl
  have hk : j / 2 < xs.length := by omega
  have f := flat_even _ (j / 2) hk
  have hx := h.2 (j / 2) hk
  rw [Nat.zero_add] at hx
  rw [e]
  rcases Nat.mod_two_eq_zero_or_one j with m | m
  · rw [show j / 2 * 2 = j by omega] at f hx
    rw [hx.1, ← f.1, hv]
  · rw [show j / 2 * 2 + 1 = j by omega] at f hx
    rw [hx.2, ← f.2, hv]

theorem own_empty (w : World) (N : Nat) (hN : w.heap.size = N) : (w.alloc (.cells #[] 86)).ownsRow N 86 2 (.slice (some ⟨N, 0, none⟩) 0 0) 0 [] := by
  subst hN
  exact ⟨rfl, .inr ⟨w.heap.size, 0, #[], rfl, Nat.le_refl _, heap_new _ _, Nat.le_refl _, by unfold maxLen; omega, rfl, rfl⟩⟩

theorem small_max {n : Nat} (h : n ≤ 4) : 0 + n ≤ maxLen := by unfold maxLen; omega

/-- What an append onto an empty row of one's own leaves. -/
theorem grown_box {w w' : World} {v' : Value} {xs : List (Int × Int)} {N : Nat} (hN : w.heap.size = N) (hl : 0 < xs.length) (h : w'.ownsRow N 86 2 v' xs.length (flat xs)) (hg : (w.alloc (.cells #[] 86)).grownBy w' (Value.slice (some ⟨N, 0, none⟩) 0 0).ownBlock) :
    ∃ g cap, v' = .slice (some ⟨g, 0, none⟩) xs.length cap ∧ N ≤ g ∧ xs.length ≤ cap ∧ BoxAt w' g 0 xs ∧ (∀ o, w'.frozen? ⟨g, o, none⟩ = false) ∧ Below N w w' := by
  subst hN
  obtain ⟨g, cap, h1, h2, h3, h4, h5⟩ := owned_box h hl
  refine ⟨g, cap, h1, h2, h3, h4, h5, ?_⟩
  refine Below.grown ((Below.refl _ _).alloc (Nat.le_refl _) _) hg (by rw [size_new]; omega) ?_
  intro k hk
  simp only [Value.ownBlock] at hk
  injection hk with hk
  omega

theorem flat_atO {w : World} {b off : Nat} {xs : List (Int × Int)} (h : BoxAt w b off xs) (j : Nat) (v : Value) (hv : (flat xs)[j]? = some v) : w.cell? ((⟨b, off, none⟩ : Addr).add j) = some v := by
  have e : (⟨b, off, none⟩ : Addr).add j = ⟨b, off + j, none⟩ := by unfold Addr.add; split <;> simp_all
  have hl : j < (flat xs).length := (List.getElem?_eq_some_iff.1 hv).1
  rw [flat_length] at hl
  have hk : j / 2 < xs.length := by omega
  have f := flat_even _ (j / 2) hk
  have hx := h.2 (j / 2) hk
  rw [e]
  rcases Nat.mod_two_eq_zero_or_one j with m | m
  · rw [show j / 2 * 2 = j by omega] at f hx
    rw [hx.1, ← f.1, hv]
  · rw [show off + j / 2 * 2 + 1 = off + j by omega] at hx
    rw [show j / 2 * 2 + 1 = j by omega] at f
    rw [hx.2, ← f.2, hv]

theorem infoBoxO : (Tryd.prog.info? 86).map (fun i => (i.zero, i.size, i.bytes)) = some (some (.agg #[.int .i64 0, .int .i64 0]), 2, 16) := by kernel_rfl
end Go.Proofs.YtokbakphfodabaaDoor.Own

namespace Go.Proofs.YtokbakphfodabaaDoor.Own
open Go.RowKit
set_option linter.unusedVariables false

/-- v is a slice of the pairs xs, of element type t, its memory from B on its own. -/
def OwnP (t : TypeId) (w : World) (B : Nat) (v : Value) (xs : List P2) : Prop := w.ownsRow B t 2 v xs.length (flat xs)

theorem OwnP.open {t : TypeId} {w : World} {B : Nat} {v : Value} {xs : List P2} (h : OwnP t w B v xs) :
    ∃ a cap, v = .slice a xs.length cap ∧ Sl w a xs ∧ xs.length ≤ cap ∧ cap ≤ maxLen ∧ (∀ x, a = some x → v.ownBlock = some x.block ∧ x.off = 0 ∧ x.spot = none) := by
  obtain ⟨h1, h2⟩ := h
  rcases h2 with ⟨hv, h0⟩ | ⟨g, cap, cur, hv, hg, hh, hmc, hml, hsz, htk⟩
  · exact ⟨none, 0, by rw [hv, h0], .inl (List.eq_nil_of_length_eq_zero h0), by omega, by unfold maxLen; omega, fun x e => by cases e⟩
  · refine ⟨some ⟨g, 0, none⟩, cap, hv, .inr ⟨g, 0, rfl, (Array.getElem?_eq_some_iff.1 hh).1, fun i hi => ?_⟩, hmc, hml, fun x e => by injection e with e; subst e; rw [hv]; exact ⟨rfl, rfl, rfl⟩⟩
    have e := flat_even xs i hi
    rw [← htk] at e
    rw [cell_heap hh, cell_heap hh, Nat.zero_add]
    rw [List.getElem?_take_of_lt (by omega), List.getElem?_take_of_lt (by omega)] at e
    simpa using e
theorem OwnP.keep {t : TypeId} {w w' : World} {B : Nat} {v : Value} {xs : List P2} {row : Option Nat} (h : OwnP t w B v xs) (hg : w.grownBy w' row) (hne : v.ownBlock = none ∨ v.ownBlock ≠ row) : OwnP t w' B v xs := World.ownsRow.kept h hg hne
theorem OwnP.below {t : TypeId} {w w' : World} {B : Nat} {v : Value} {xs : List P2} (h : OwnP t w B v xs) (hb : Below w.heap.size w w') : OwnP t w' B v xs := by
  obtain ⟨h1, h2⟩ := h
  refine ⟨h1, ?_⟩
  rcases h2 with h2 | ⟨g, cap, cur, hv, hg, hh, r⟩
  · exact .inl h2
  · exact .inr ⟨g, cap, cur, hv, hg, by rw [hb.block g (Array.getElem?_eq_some_iff.1 hh).1]; exact hh, r⟩
theorem OwnP.lower {t : TypeId} {w : World} {B B' : Nat} {v : Value} {xs : List P2} (h : OwnP t w B v xs) (hB : B' ≤ B) : OwnP t w B' v xs := by
  obtain ⟨h1, h2⟩ := h
  refine ⟨h1, ?_⟩
  rcases h2 with h2 | ⟨g, cap, cur, hv, hg, r⟩
  · exact .inl h2
  · exact .inr ⟨g, cap, cur, hv, Nat.le_trans hB hg, r⟩
theorem OwnP.nil (t : TypeId) (w : World) (B : Nat) : OwnP t w B (.slice none 0 0) [] := World.ownsRow_nil _ _ _ _
theorem flat_snocP (xs : List P2) (p : P2) : flat (xs ++ [p]) = flat xs ++ [.int .i64 p.1, .int .i64 p.2] := by simp [flat]

theorem flat_extP {xs : List P2} {l : List Value} (hl : l.length = xs.length * 2) (h : ∀ i, i < xs.length → l[i * 2]? = some (.int .i64 (xs.getD i (0, 0)).1) ∧ l[i * 2 + 1]? = some (.int .i64 (xs.getD i (0, 0)).2)) : l = flat xs := by
  apply List.ext_getElem?
  intro j
  by_cases hj : j < xs.length * 2
  · have hk : j / 2 < xs.length := by omega
    have e1 := h (j / 2) hk
    have e2 := flat_even xs (j / 2) hk
    rcases Nat.mod_two_eq_zero_or_one j with m | m
    · rw [show j = j / 2 * 2 by omega, e1.1, e2.1]
    · rw [show j = j / 2 * 2 + 1 by omega, e1.2, e2.2]
  · rw [List.getElem?_eq_none (by omega), List.getElem?_eq_none (by rw [flat_length]; omega)]

theorem getD_setP (xs : List P2) (i j : Nat) (v : P2) (hi : i < xs.length) : (xs.set i v).getD j (0, 0) = if i = j then v else xs.getD j (0, 0) := by
  simp only [List.getD_eq_getElem?_getD, List.getElem?_set]
  by_cases e : i = j
  · simp [e, show j < xs.length by omega]
  · simp [e]

/-- The second number of a pair of such a slice, turned. -/
theorem OwnP.set {t : TypeId} {w : World} {B g cap : Nat} {xs : List P2} (h : OwnP t w B (.slice (some ⟨g, 0, none⟩) xs.length cap) xs) (i : Nat) (hi : i < xs.length) (n : Int) :
    OwnP t (w.setCell ⟨g, i * 2 + 1, none⟩ (.int .i64 n)) B (.slice (some ⟨g, 0, none⟩) xs.length cap) (xs.set i ((xs.getD i (0, 0)).1, n)) := by
  obtain ⟨h1, h2⟩ := h
  rcases h2 with ⟨hv, h0⟩ | ⟨g', cap', cur, hv, hg, hh, hmc, hml, hsz, htk⟩
  · omega
  injection hv with e1 e2 e3
  injection e1 with e1
  injection e1 with e1
  subst e1 e3
  have hl2 := flat_length xs
  refine ⟨by rw [flat_length], .inr ⟨g, cap, cur.setIfInBounds (i * 2 + 1) (.int .i64 n), by rw [List.length_set], hg, ?_, by rw [List.length_set]; exact hmc, hml, by simpa using hsz, ?_⟩⟩
  · simp [World.setCell, Array.getElem?_modify, hh]
  · rw [List.length_set]
    have hcl : xs.length * 2 ≤ cur.size := by rw [hsz]; omega
    apply flat_extP
    · rw [List.length_set, List.length_take]
      simp
      omega
    · intro j hj
      rw [List.length_set] at hj
      have e := flat_even xs j hj
      rw [← htk, List.getElem?_take_of_lt (by omega), List.getElem?_take_of_lt (by omega)] at e
      rw [List.getElem?_take_of_lt (by omega), List.getElem?_take_of_lt (by omega), getD_setP _ _ _ _ hi]
      by_cases hij : i = j
      · subst hij
        rw [if_pos rfl]
        refine ⟨?_, ?_⟩
        · have := e.1
          simp only [Array.getElem?_toList] at this ⊢
          rw [Array.getElem?_setIfInBounds_ne (by omega)]; exact this
        · simp only [Array.getElem?_toList]
          rw [Array.getElem?_setIfInBounds_self_of_lt (by omega)]
      · rw [if_neg hij]
        refine ⟨?_, ?_⟩
        · have := e.1
          simp only [Array.getElem?_toList] at this ⊢
          rw [Array.getElem?_setIfInBounds_ne (by omega)]; exact this
        · have := e.2
          simp only [Array.getElem?_toList] at this ⊢
          rw [Array.getElem?_setIfInBounds_ne (by omega)]; exact this
end Go.Proofs.YtokbakphfodabaaDoor.Own

namespace Go.Proofs.YtokbakphfodabaaDoor.Own
open Go.RowKit
set_option linter.unusedVariables false

theorem grR (w : World) (row : Option Nat) : w.grownBy w row := ⟨rfl, rfl, rfl, Nat.le_refl _, fun _ _ _ => rfl⟩
theorem grSet {a b : World} {k o : Nat} (h : a.grownBy b (some k)) (v : Value) : a.grownBy (b.setCell ⟨k, o, none⟩ v) (some k) :=
  ⟨h.os, h.tape, h.output, by simpa [World.setCell] using h.size, fun i hi hn => by rw [Below.heap_setCell _ _ _ _ (fun e => hn (by rw [e]))]; exact h.block i hi hn⟩
theorem grSetN {a b : World} {row : Option Nat} {p : Addr} (h : a.grownBy b row) (hp : a.heap.size ≤ p.block) (v : Value) : a.grownBy (b.setCell p v) row :=
  ⟨h.os, h.tape, h.output, by simpa [World.setCell] using h.size, fun i hi hn => by rw [Below.heap_setCell _ _ _ _ (by omega)]; exact h.block i hi hn⟩
theorem grAlloc {a b : World} {row : Option Nat} (h : a.grownBy b row) (o : Obj) : a.grownBy (b.alloc o) row := h.trans ((World.grownBy_alloc b o row))
theorem grDrew {a b : World} {row : Option Nat} (h : a.grownBy b row) : a.grownBy b.drew row := h.trans ⟨rfl, rfl, rfl, Nat.le_refl _, fun _ _ _ => rfl⟩
theorem grDrewN {a b : World} {row : Option Nat} (h : a.grownBy b row) (n : Nat) : a.grownBy (b.drewN n) row := h.trans ⟨rfl, rfl, rfl, Nat.le_refl _, fun _ _ _ => rfl⟩
theorem grBelow {w w' : World} {row : Option Nat} (h : Below w.heap.size w w') : w.grownBy w' row := ⟨h.os, h.tape, h.output, h.size, fun k hk _ => h.block k hk⟩
theorem grBut {a b : World} (h : a.grownBy b none) (row : Option Nat) : a.grownBy b row := ⟨h.os, h.tape, h.output, h.size, fun i hi _ => h.block i hi (by simp)⟩
/-- A block that was not there may turn. -/
theorem grNew {a b c : World} {row : Option Nat} {k : Nat} (h : a.grownBy b row) (g : b.grownBy c (some k)) (hk : a.heap.size ≤ k) : a.grownBy c row :=
  ⟨g.os.trans h.os, g.tape.trans h.tape, g.output.trans h.output, Nat.le_trans h.size g.size, fun i hi hn => (g.block i (Nat.lt_of_lt_of_le hi h.size) (by simp; omega)).trans (h.block i hi hn)⟩
theorem Sl.grown {w w' : World} {row : Option Nat} {a : Option Addr} {xs : List (Int × Int)} (h : Sl w a xs) (hg : w.grownBy w' row) (hb : ∀ x, a = some x → row ≠ some x.block) : Sl w' a xs := by
  rcases h with h | ⟨b, off, rfl, h⟩
  · exact .inl h
  · have e : ∀ o, w'.cell? ⟨b, o, none⟩ = w.cell? ⟨b, o, none⟩ := fun o => World.cell?_of_block (w := w) (a := ⟨b, o, none⟩) (hg.block b h.1 (fun e => hb _ rfl e.symm))
    exact .inr ⟨b, off, rfl, Nat.lt_of_lt_of_le h.1 hg.size, fun i hi => by rw [e, e]; exact h.2 i hi⟩
end Go.Proofs.YtokbakphfodabaaDoor.Own
