/-
  Own texts, bundled: OwnB, Cells4, Turned, VoteMem, EntText, BuilderG, EntTextI, EntTextE.
-/
import Derived.Test.YtokbakphfodabaaDoorPk1
import Derived.Lib.Builder
import Derived.Lib.AppendStr
import Derived.Lib.UnsafeStr
import Derived.Lib.OthersKept
import Derived.Laws.Externs
import Derived.OwnWalk
import Derived.Deep.Cut
namespace Go.Proofs.YtokbakphfodabaaDoor.Own
open Go.RowKit

/-- A list that a call made: from block B on, or empty. -/
def OwnB (w : World) (B : Nat) (a : Option Addr) (xs : List (Int × Int)) : Prop := xs = [] ∨ ∃ g, a = some ⟨g, 0, none⟩ ∧ B ≤ g ∧ BoxAt w g 0 xs ∧ (∀ o, w.frozen? ⟨g, o, none⟩ = false)
theorem OwnB.sl {w : World} {B : Nat} {a : Option Addr} {xs : List (Int × Int)} (h : OwnB w B a xs) : Sl w a xs := by
  rcases h with h | ⟨g, rfl, _, h, _⟩
  · exact .inl h
  · exact .inr ⟨g, 0, rfl, h⟩
theorem OwnB.below {w w' : World} {B : Nat} {a : Option Addr} {xs : List (Int × Int)} (h : OwnB w B a xs) (hb : Below w.heap.size w w') : OwnB w' B a xs := by
  rcases h with h | ⟨g, rfl, hB, h, hf⟩
  · exact .inl h
  · exact .inr ⟨g, rfl, hB, h.below hb, fun o => by rw [hb.frozen (p := ⟨g, o, none⟩) h.1]; exact hf o⟩
theorem OwnB.weaken {w : World} {B B' : Nat} {a : Option Addr} {xs : List (Int × Int)} (h : OwnB w B a xs) (hb : B' ≤ B) : OwnB w B' a xs := by
  rcases h with h | ⟨g, rfl, hB, h, hf⟩
  · exact .inl h
  · exact .inr ⟨g, rfl, Nat.le_trans hb hB, h, hf⟩
/-- Nothing but the list's own block has turned. -/
def OnlyB (a : Option Addr) (xs : List (Int × Int)) (w w' : World) : Prop := (xs = [] ∧ w' = w) ∨ ∃ g, xs ≠ [] ∧ a = some ⟨g, 0, none⟩ ∧ Only g w w'
theorem OnlyB.below {a : Option Addr} {xs : List (Int × Int)} {w w' : World} {B : Nat} (h : OnlyB a xs w w') (hB : ∀ g, xs ≠ [] → a = some ⟨g, 0, none⟩ → B ≤ g) : Below B w w' := by
  rcases h with ⟨_, rfl⟩ | ⟨g, hne, e, h⟩
  · exact Below.refl _ _
  · exact h.below (hB g hne e)
theorem OwnB.from {w : World} {B : Nat} {a : Option Addr} {xs : List (Int × Int)} (h : OwnB w B a xs) : ∀ g, xs ≠ [] → a = some ⟨g, 0, none⟩ → B ≤ g := by
  intro g hne e
  rcases h with h | ⟨g', e', hB, _⟩
  · exact absurd h hne
  · rw [e] at e'; injection e' with e'; injection e' with e1; omega
/-- Two lists that lie in different blocks. -/
def Apart (a b : Option Addr) (xs ys : List (Int × Int)) : Prop := xs = [] ∨ ys = [] ∨ ∀ g g', a = some ⟨g, 0, none⟩ → b = some ⟨g', 0, none⟩ → g ≠ g'
theorem OwnB.onlyB {w w' : World} {B : Nat} {a b : Option Addr} {xs ys : List (Int × Int)} (h : OwnB w B a xs) (ho : OnlyB b ys w w') (hap : Apart a b xs ys) : OwnB w' B a xs := by
  rcases ho with ⟨_, rfl⟩ | ⟨g, hne, rfl, ho⟩
  · exact h
  · rcases h with h | ⟨g', rfl, hB, h, hf⟩
    · exact .inl h
    · rcases hap with h0 | h0 | hap
      · exact .inl h0
      · exact absurd h0 hne
      · have hgg := hap g' g rfl rfl
        refine .inr ⟨g', rfl, hB, h.only ho hgg, fun o => ?_⟩
        rw [World.frozen?_of_block (w := w) (a := ⟨g', o, none⟩) (ho.block g' hgg)]; exact hf o
theorem Sl.onlyB {w w' : World} {a b : Option Addr} {xs ys : List (Int × Int)} {B : Nat} (h : Sl w a xs) (ho : OnlyB b ys w w') (hb : ∀ g, ys ≠ [] → b = some ⟨g, 0, none⟩ → B ≤ g) (ha : ∀ x, a = some x → x.block < B) : Sl w' a xs := by
  rcases ho with ⟨_, rfl⟩ | ⟨g, hne, rfl, ho⟩
  · exact h
  · rcases h with h | ⟨b, off, rfl, h⟩
    · exact .inl h
    · exact .inr ⟨b, off, rfl, h.only ho (by have := hb g hne rfl; have := ha _ rfl; simp at this; omega)⟩
theorem marks_nil (k : Int) : marks k 0 = [] := rfl
theorem nil_of {xs : List (Int × Int)} (h : xs.length = 0) : xs = [] := List.eq_nil_of_length_eq_zero h
end Go.Proofs.YtokbakphfodabaaDoor.Own

namespace Go.Proofs.YtokbakphfodabaaDoor.Own
open Go.RowKit

def C4 (w : World) (b : Nat) (x0 x1 x2 x3 : Value) : Prop := b < w.heap.size ∧ w.cell? ⟨b, 0, none⟩ = some x0 ∧ w.cell? ⟨b, 1, none⟩ = some x1 ∧ w.cell? ⟨b, 2, none⟩ = some x2 ∧ w.cell? ⟨b, 3, none⟩ = some x3
theorem C4.below {w w' : World} {b : Nat} {x0 x1 x2 x3 : Value} (h : C4 w b x0 x1 x2 x3) (hb : Below w.heap.size w w') : C4 w' b x0 x1 x2 x3 := by
  have e : ∀ o, w'.cell? ⟨b, o, none⟩ = w.cell? ⟨b, o, none⟩ := fun o => hb.cell (p := ⟨b, o, none⟩) h.1
  refine ⟨Nat.lt_of_lt_of_le h.1 hb.size, ?_⟩
  rw [e, e, e, e]; exact h.2
theorem C4.new (w : World) (x0 x1 x2 x3 : Value) (t : TypeId) : C4 (w.alloc (.cells #[x0, x1, x2, x3] t)) w.heap.size x0 x1 x2 x3 := by
  refine ⟨by rw [size_new]; omega, ?_⟩
  rw [cell_heap (heap_new _ _), cell_heap (heap_new _ _), cell_heap (heap_new _ _), cell_heap (heap_new _ _)]
  exact ⟨rfl, rfl, rfl, rfl⟩
theorem C4.alloc {w : World} {b : Nat} {x0 x1 x2 x3 : Value} (h : C4 w b x0 x1 x2 x3) (o : Obj) : C4 (w.alloc o) b x0 x1 x2 x3 := h.below ((Below.refl _ _).alloc (Nat.le_refl _) _)
/-- What lay below a mark, and the block at it. -/
theorem below_new (w : World) (o : Obj) : Below w.heap.size w (w.alloc o) := (Below.refl _ _).alloc (Nat.le_refl _) _
end Go.Proofs.YtokbakphfodabaaDoor.Own

namespace Go.Proofs.YtokbakphfodabaaDoor.Own
open Go.RowKit

structure Turned (L : List Nat) (w w' : World) : Prop where
  os : w'.os = w.os
  tape : w'.tape = w.tape
  output : w'.output = w.output
  size : w.heap.size ≤ w'.heap.size
  block : ∀ k, k < w.heap.size → k ∉ L → w'.heap[k]? = w.heap[k]?

theorem Turned.refl (L : List Nat) (w : World) : Turned L w w := ⟨rfl, rfl, rfl, Nat.le_refl _, fun _ _ _ => rfl⟩
theorem Turned.trans {L : List Nat} {a b c : World} (h : Turned L a b) (k : Turned L b c) : Turned L a c :=
  ⟨k.os.trans h.os, k.tape.trans h.tape, k.output.trans h.output, Nat.le_trans h.size k.size, fun i hi hn => (k.block i (Nat.lt_of_lt_of_le hi h.size) hn).trans (h.block i hi hn)⟩
theorem Turned.ofBelow {L : List Nat} {w w' : World} (h : Below w.heap.size w w') : Turned L w w' := ⟨h.os, h.tape, h.output, h.size, fun k hk _ => h.block k hk⟩
theorem Turned.ofOnly {L : List Nat} {g : Nat} {w w' : World} (h : Only g w w') (hg : g ∈ L) : Turned L w w' :=
  ⟨h.os, h.tape, h.output, Nat.le_of_eq h.size.symm, fun k _ hn => h.block k (fun e => hn (e ▸ hg))⟩
theorem Turned.ofOnlyB {L : List Nat} {a : Option Addr} {xs : List (Int × Int)} {w w' : World} (h : OnlyB a xs w w') (hg : ∀ g, a = some ⟨g, 0, none⟩ → g ∈ L) : Turned L w w' := by
  rcases h with ⟨_, rfl⟩ | ⟨g, _, e, h⟩
  · exact Turned.refl _ _
  · exact Turned.ofOnly h (hg g e)
theorem Turned.mono {L L' : List Nat} {w w' : World} (h : Turned L w w') (hs : ∀ x, x ∈ L → x ∈ L') : Turned L' w w' :=
  ⟨h.os, h.tape, h.output, h.size, fun k hk hn => h.block k hk (fun e => hn (hs _ e))⟩
theorem Turned.below {L : List Nat} {w w' : World} {B : Nat} (h : Turned L w w') (hL : ∀ x, x ∈ L → B ≤ x) (hB : B ≤ w.heap.size) : Below B w w' :=
  ⟨h.os, h.tape, h.output, h.size, fun k hk => h.block k (by omega) (fun e => by have := hL _ e; omega)⟩
theorem BoxAt.turned {L : List Nat} {w w' : World} {b off : Nat} {xs : List (Int × Int)} (h : BoxAt w b off xs) (ht : Turned L w w') (hb : b ∉ L) : BoxAt w' b off xs := by
  have e : ∀ o, w'.cell? ⟨b, o, none⟩ = w.cell? ⟨b, o, none⟩ := fun o => World.cell?_of_block (w := w) (a := ⟨b, o, none⟩) (ht.block b h.1 hb)
  exact ⟨Nat.lt_of_lt_of_le h.1 ht.size, fun i hi => by rw [e, e]; exact h.2 i hi⟩
theorem Sl.turned {L : List Nat} {w w' : World} {a : Option Addr} {xs : List (Int × Int)} (h : Sl w a xs) (ht : Turned L w w') (hb : ∀ x, a = some x → x.block ∉ L) : Sl w' a xs := by
  rcases h with h | ⟨b, off, rfl, h⟩
  · exact .inl h
  · exact .inr ⟨b, off, rfl, h.turned ht (hb _ rfl)⟩
theorem OwnB.turned {L : List Nat} {w w' : World} {B : Nat} {a : Option Addr} {xs : List (Int × Int)} (h : OwnB w B a xs) (ht : Turned L w w') (hb : ∀ g, a = some ⟨g, 0, none⟩ → g ∉ L) : OwnB w' B a xs := by
  rcases h with h | ⟨g, rfl, hB, h, hf⟩
  · exact .inl h
  · exact .inr ⟨g, rfl, hB, h.turned ht (hb g rfl), fun o => by rw [World.frozen?_of_block (w := w) (a := ⟨g, o, none⟩) (ht.block g h.1 (hb g rfl))]; exact hf o⟩
theorem C4.turned {L : List Nat} {w w' : World} {b : Nat} {x0 x1 x2 x3 : Value} (h : C4 w b x0 x1 x2 x3) (ht : Turned L w w') (hb : b ∉ L) : C4 w' b x0 x1 x2 x3 := by
  have e : ∀ o, w'.cell? ⟨b, o, none⟩ = w.cell? ⟨b, o, none⟩ := fun o => World.cell?_of_block (w := w) (a := ⟨b, o, none⟩) (ht.block b h.1 hb)
  refine ⟨Nat.lt_of_lt_of_le h.1 ht.size, ?_⟩
  rw [e, e, e, e]; exact h.2
end Go.Proofs.YtokbakphfodabaaDoor.Own

namespace Go.Proofs.YtokbakphfodabaaDoor.Own
open Go.RowKit
set_option linter.unusedVariables false

/-- What an entry says: whether there is none; of whom; which; looked at; put; value; code. -/
structure EB where
  n : Bool
  p : Int
  q : Int
  xs : List P2
  ys : List P2
  v : Int
  k : Int
def e0 : EB := ⟨false, 0, 0, [], [], 0, 0⟩
/-- A vote: its ballot and its entry. -/
abbrev V := Int × EB
/-- A vote in memory: what it says, and where its two lists lie. -/
structure VM where
  bal : Int
  b : EB
  a1 : Option Addr
  c1 : Nat
  a2 : Option Addr
  c2 : Nat
def v0 : VM := ⟨0, e0, none, 0, none, 0⟩
instance : Inhabited VM := ⟨v0⟩
def VM.body (x : VM) : V := (x.bal, x.b)
def VM.cells (x : VM) : Array Value := #[.int .i64 x.bal, .bool x.b.n, .int .i64 x.b.p, .int .i64 x.b.q, .slice x.a1 x.b.xs.length x.c1, .slice x.a2 x.b.ys.length x.c2, .int .i64 x.b.v, .int .i64 x.b.k]
def bodies (vs : List VM) : List V := vs.map VM.body
theorem bodies_len (vs : List VM) : (bodies vs).length = vs.length := by simp [bodies]
theorem bodies_getD (vs : List VM) (i : Nat) : (bodies vs).getD i (0, e0) = (vs.getD i v0).body := by
  unfold bodies
  by_cases h : i < vs.length
  · simp [List.getD, h]
  · simp [List.getD, h, v0, VM.body]
theorem bodies_eq {vs us : List VM} (h : bodies vs = bodies us) : vs.length = us.length ∧ ∀ i, (vs.getD i v0).body = (us.getD i v0).body :=
  ⟨by rw [← bodies_len, h, bodies_len], fun i => by rw [← bodies_getD, h, bodies_getD]⟩
theorem body_eq {x y : VM} (h : x.body = y.body) : x.bal = y.bal ∧ x.b = y.b := by
  unfold VM.body at h
  injection h with h1 h2
  exact ⟨h1, h2⟩

/-- A vote's eight cells, and its two lists. -/
def VC (w : World) (b o : Nat) (x : VM) : Prop :=
  (w.cell? ⟨b, o, none⟩ = some (.int .i64 x.bal) ∧ w.cell? ⟨b, o + 1, none⟩ = some (.bool x.b.n) ∧ w.cell? ⟨b, o + 2, none⟩ = some (.int .i64 x.b.p) ∧ w.cell? ⟨b, o + 3, none⟩ = some (.int .i64 x.b.q) ∧ w.cell? ⟨b, o + 4, none⟩ = some (.slice x.a1 x.b.xs.length x.c1) ∧ w.cell? ⟨b, o + 5, none⟩ = some (.slice x.a2 x.b.ys.length x.c2) ∧ w.cell? ⟨b, o + 6, none⟩ = some (.int .i64 x.b.v) ∧ w.cell? ⟨b, o + 7, none⟩ = some (.int .i64 x.b.k)) ∧ Sl w x.a1 x.b.xs ∧ Sl w x.a2 x.b.ys
theorem VC.below {w w' : World} {b o : Nat} {x : VM} (h : VC w b o x) (hlt : b < w.heap.size) (hb : Below w.heap.size w w') : VC w' b o x := by
  obtain ⟨h1, h2, h3⟩ := h
  have e := fun o => hb.cell (p := ⟨b, o, none⟩) hlt
  exact ⟨by rw [e, e, e, e, e, e, e, e]; exact h1, h2.below hb, h3.below hb⟩
/-- Votes in memory, one behind the other. -/
def VAt (w : World) (b off : Nat) (vs : List VM) : Prop := b < w.heap.size ∧ ∀ i, i < vs.length → VC w b (off + i * 8) (vs.getD i v0)
theorem VAt.below {w w' : World} {b off : Nat} {vs : List VM} (h : VAt w b off vs) (hb : Below w.heap.size w w') : VAt w' b off vs :=
  ⟨Nat.lt_of_lt_of_le h.1 hb.size, fun i hi => (h.2 i hi).below h.1 hb⟩
/-- What a slice of votes leads to. -/
def SlV (w : World) (a : Option Addr) (vs : List VM) : Prop := vs = [] ∨ ∃ b off, a = some ⟨b, off, none⟩ ∧ VAt w b off vs
theorem SlV.below {w w' : World} {a : Option Addr} {vs : List VM} (h : SlV w a vs) (hb : Below w.heap.size w w') : SlV w' a vs := by
  rcases h with h | ⟨b, off, rfl, h⟩
  · exact .inl h
  · exact .inr ⟨b, off, rfl, h.below hb⟩
/-- The lists of a vote are of a length that the walks take. -/
def VL (x : VM) : Prop := x.b.xs.length ≤ 2 ^ 40 ∧ x.b.ys.length ≤ 2 ^ 40 ∧ x.b.xs.length ≤ x.c1 ∧ x.b.ys.length ≤ x.c2
def VLs (vs : List VM) : Prop := ∀ i, i < vs.length → VL (vs.getD i v0)
/-- So many boxes the first k votes have looked at and put. -/
def sumV (vs : List VM) : Nat → Nat
  | 0 => 0
  | k + 1 => sumV vs k + ((vs.getD k v0).b.xs.length + (vs.getD k v0).b.ys.length)
theorem sumV_mono (vs : List VM) {i k : Nat} (h : i ≤ k) : sumV vs i ≤ sumV vs k := by
  induction k with
  | zero => obtain rfl : i = 0 := by omega
            exact Nat.le_refl _
  | succ k ih =>
    by_cases e : i = k + 1
    · subst e; exact Nat.le_refl _
    · have := ih (by omega); simp only [sumV]; omega
theorem sumV_at (vs : List VM) {i k : Nat} (h : i < k) : (vs.getD i v0).b.xs.length + (vs.getD i v0).b.ys.length ≤ sumV vs k := by
  have := sumV_mono vs (show i + 1 ≤ k by omega)
  simp only [sumV] at this
  omega

theorem snoc_lt {α : Type} (l : List α) (x d : α) {i : Nat} (h : i < l.length) : (l ++ [x]).getD i d = l.getD i d := by simp [List.getD, List.getElem?_append_left h]
theorem snoc_eq {α : Type} (l : List α) (x d : α) : (l ++ [x]).getD l.length d = x := by simp [List.getD]
theorem snoc_eq' {α : Type} (l : List α) (x d : α) {i : Nat} (h : i = l.length) : (l ++ [x]).getD i d = x := by rw [h]; exact snoc_eq _ _ _

theorem Blk.cells8 {w : World} {b : Nat} {x0 x1 x2 x3 x4 x5 x6 x7 : Value} {t : TypeId} (h : Blk w b #[x0, x1, x2, x3, x4, x5, x6, x7] t) : w.cell? ⟨b, 0, none⟩ = some x0 ∧ w.cell? ⟨b, 1, none⟩ = some x1 ∧ w.cell? ⟨b, 2, none⟩ = some x2 ∧ w.cell? ⟨b, 3, none⟩ = some x3 ∧ w.cell? ⟨b, 4, none⟩ = some x4 ∧ w.cell? ⟨b, 5, none⟩ = some x5 ∧ w.cell? ⟨b, 6, none⟩ = some x6 ∧ w.cell? ⟨b, 7, none⟩ = some x7 :=
  ⟨by rw [h.cell]; rfl, by rw [h.cell]; rfl, by rw [h.cell]; rfl, by rw [h.cell]; rfl, by rw [h.cell]; rfl, by rw [h.cell]; rfl, by rw [h.cell]; rfl, by rw [h.cell]; rfl⟩
/-- A row of n votes of one's own. -/
def RowV (w : World) (b n : Nat) : Prop := ∃ C t, w.heap[b]? = some (.cells C t (0, 0)) ∧ C.size = n * 8 ∧ ∀ v ∈ C, v.oneCell' = true
theorem RowV.setCell {w : World} {b n : Nat} (h : RowV w b n) (o : Nat) (v : Value) (hv : v.oneCell' = true) : RowV (w.setCell ⟨b, o, none⟩ v) b n := by
  obtain ⟨C, t, h1, h2, h3⟩ := h
  refine ⟨C.setIfInBounds o v, t, ?_, by simpa using h2, ?_⟩
  · simp [World.setCell, Array.getElem?_modify, h1]
  · intro u hu
    rcases Array.mem_or_eq_of_mem_setIfInBounds hu with h | h
    · exact h3 u h
    · rw [h]; exact hv
theorem RowV.cell {w : World} {b n : Nat} (h : RowV w b n) (o : Nat) (ho : o < n * 8) : ∃ v, w.cell? ⟨b, o, none⟩ = some v ∧ v.oneCell' = true := by
  obtain ⟨C, t, h1, h2, h3⟩ := h
  rw [cell_heap h1]
  exact ⟨C[o]'(by omega), by simp, h3 _ (by simp)⟩
theorem RowV.frozen {w : World} {b n : Nat} (h : RowV w b n) (o : Nat) : w.frozen? ⟨b, o, none⟩ = false := by
  obtain ⟨C, t, h1, _⟩ := h
  exact frozen_heap h1 o
theorem RowV.lt {w : World} {b n : Nat} (h : RowV w b n) : b < w.heap.size := by
  obtain ⟨C, t, h1, _⟩ := h
  exact (Array.getElem?_eq_some_iff.1 h1).1
theorem RowV.block {w w' : World} {b n : Nat} (h : RowV w b n) (hb : w'.heap[b]? = w.heap[b]?) : RowV w' b n := by
  obtain ⟨C, t, h1, h2⟩ := h
  exact ⟨C, t, by rw [hb]; exact h1, h2⟩
theorem RowV.below {w w' : World} {b n B : Nat} (h : RowV w b n) (hb : Below B w w') (hB : b < B) : RowV w' b n := h.block (hb.block _ hB)

/-- Eight cells of one block, stored one behind the other: what lies there then. -/
def set8 (w : World) (b o : Nat) (x : VM) : World := (((((((w.setCell ⟨b, o, none⟩ (.int .i64 x.bal)).setCell ⟨b, o + 1, none⟩ (.bool x.b.n)).setCell ⟨b, o + 2, none⟩ (.int .i64 x.b.p)).setCell ⟨b, o + 3, none⟩ (.int .i64 x.b.q)).setCell ⟨b, o + 4, none⟩ (.slice x.a1 x.b.xs.length x.c1)).setCell ⟨b, o + 5, none⟩ (.slice x.a2 x.b.ys.length x.c2)).setCell ⟨b, o + 6, none⟩ (.int .i64 x.b.v)).setCell ⟨b, o + 7, none⟩ (.int .i64 x.b.k)
theorem set8_size (w : World) (b o : Nat) (x : VM) : (set8 w b o x).heap.size = w.heap.size := by simp [set8, World.setCell]
theorem set8_turned (w : World) (b o : Nat) (x : VM) : Turned [b] w (set8 w b o x) := by
  have S : ∀ (u : World) (o' : Nat) (v : Value), Turned [b] u (u.setCell ⟨b, o', none⟩ v) := fun u o' v => ⟨rfl, rfl, rfl, by simp [World.setCell], fun k _ hn => Below.heap_setCell _ _ _ _ (by simpa using hn)⟩
  unfold set8
  exact (((((((S _ _ _).trans (S _ _ _)).trans (S _ _ _)).trans (S _ _ _)).trans (S _ _ _)).trans (S _ _ _)).trans (S _ _ _)).trans (S _ _ _)
theorem set8_row {w : World} {b n : Nat} (h : RowV w b n) (o : Nat) (x : VM) : RowV (set8 w b o x) b n := by
  unfold set8
  exact (((((((h.setCell _ _ rfl).setCell _ _ rfl).setCell _ _ rfl).setCell _ _ rfl).setCell _ _ rfl).setCell _ _ rfl).setCell _ _ rfl).setCell _ _ rfl
theorem set8_below {w a : World} {B b : Nat} (h : Below B a w) (hB : B ≤ b) (o : Nat) (x : VM) : Below B a (set8 w b o x) := by
  unfold set8
  exact (((((((h.setCell hB _).setCell hB _).setCell hB _).setCell hB _).setCell hB _).setCell hB _).setCell hB _).setCell hB _
theorem set8_cells {w : World} {b n : Nat} (h : RowV w b n) (i : Nat) (hi : i < n) (x : VM) :
    ((set8 w b (i * 8) x).cell? ⟨b, i * 8, none⟩ = some (.int .i64 x.bal) ∧ (set8 w b (i * 8) x).cell? ⟨b, i * 8 + 1, none⟩ = some (.bool x.b.n) ∧ (set8 w b (i * 8) x).cell? ⟨b, i * 8 + 2, none⟩ = some (.int .i64 x.b.p) ∧ (set8 w b (i * 8) x).cell? ⟨b, i * 8 + 3, none⟩ = some (.int .i64 x.b.q) ∧ (set8 w b (i * 8) x).cell? ⟨b, i * 8 + 4, none⟩ = some (.slice x.a1 x.b.xs.length x.c1) ∧ (set8 w b (i * 8) x).cell? ⟨b, i * 8 + 5, none⟩ = some (.slice x.a2 x.b.ys.length x.c2) ∧ (set8 w b (i * 8) x).cell? ⟨b, i * 8 + 6, none⟩ = some (.int .i64 x.b.v) ∧ (set8 w b (i * 8) x).cell? ⟨b, i * 8 + 7, none⟩ = some (.int .i64 x.b.k)) ∧ ∀ o, (o < i * 8 ∨ i * 8 + 8 ≤ o) → (set8 w b (i * 8) x).cell? ⟨b, o, none⟩ = w.cell? ⟨b, o, none⟩ := by
  obtain ⟨C, t, h1, h2, h3⟩ := h
  have hs : ∀ (u : World) (D : Array Value) (o : Nat) (v : Value), u.heap[b]? = some (.cells D t (0, 0)) → (u.setCell ⟨b, o, none⟩ v).heap[b]? = some (.cells (D.setIfInBounds o v) t (0, 0)) := fun u D o v h => by simp [World.setCell, Array.getElem?_modify, h]
  have H := hs _ _ (i * 8 + 7) (.int .i64 x.b.k) (hs _ _ (i * 8 + 6) (.int .i64 x.b.v) (hs _ _ (i * 8 + 5) (.slice x.a2 x.b.ys.length x.c2) (hs _ _ (i * 8 + 4) (.slice x.a1 x.b.xs.length x.c1) (hs _ _ (i * 8 + 3) (.int .i64 x.b.q) (hs _ _ (i * 8 + 2) (.int .i64 x.b.p) (hs _ _ (i * 8 + 1) (.bool x.b.n) (hs _ _ (i * 8) (.int .i64 x.bal) h1)))))))
  have H' : (set8 w b (i * 8) x).heap[b]? = _ := H
  clear H hs
  have sz : i * 8 + 7 < C.size := by omega
  have K : ∀ o, (set8 w b (i * 8) x).cell? ⟨b, o, none⟩ = _ := fun o => cell_heap H' o
  have K0 : ∀ o, w.cell? ⟨b, o, none⟩ = _ := fun o => cell_heap h1 o
  clear H'
  refine ⟨⟨?_, ?_, ?_, ?_, ?_, ?_, ?_, ?_⟩, fun o ho => ?_⟩
  all_goals rw [K]
  case refine_9 => rw [K0]; simp only [Array.getElem?_setIfInBounds]; repeat (rw [if_neg (by omega)])
  all_goals
    simp only [Array.getElem?_setIfInBounds, Array.size_setIfInBounds]
    repeat (rw [if_neg (by omega)])
    rw [if_pos trivial, if_pos (by omega)]
end Go.Proofs.YtokbakphfodabaaDoor.Own

namespace Go.Proofs.YtokbakphfodabaaDoor.Own
open Go.RowKit
set_option linter.unusedVariables false

def WfP (xs : List P2) : Prop := ∀ k, k < xs.length → Fits (xs.getD k (0, 0)).1 ∧ Fits (xs.getD k (0, 0)).2
/-- Two numbers, a mark ahead of each. -/
def pairText (m1 m2 : UInt8) (p : P2) : List UInt8 := m1 :: (Lib.itoa p.1 ++ (m2 :: Lib.itoa p.2))
/-- The first k pairs, behind what is there already. -/
def pairsTo (m1 m2 : UInt8) (l : List UInt8) (xs : List P2) : Nat → List UInt8
  | 0 => l
  | k + 1 => pairsTo m1 m2 l xs k ++ pairText m1 m2 (xs.getD k (0, 0))
/-- Of whom, and which. -/
def headText (p q : Int) : List UInt8 := Lib.itoa p ++ (46 :: (Lib.itoa q ++ [123]))
theorem pairsTo_app (m1 m2 : UInt8) (l : List UInt8) (xs : List P2) (k : Nat) : pairsTo m1 m2 l xs k = l ++ pairsTo m1 m2 [] xs k := by
  induction k with
  | zero => simp [pairsTo]
  | succ k ih => simp only [pairsTo]; rw [ih, List.append_assoc]
def readsText (e : EB) : List UInt8 := pairsTo 63 47 (headText e.p e.q) e.xs e.xs.length
def putsText (e : EB) : List UInt8 := pairsTo 33 61 (readsText e) e.ys e.ys.length
def entText (e : EB) : List UInt8 := if e.n then [110, 111, 110, 101] else putsText e ++ (125 :: (Lib.itoa e.v ++ (58 :: Lib.itoa e.k)))
def WfE (e : EB) : Prop := Fits e.p ∧ Fits e.q ∧ WfP e.xs ∧ WfP e.ys ∧ Fits e.v ∧ Fits e.k
theorem pair_len (m1 m2 : UInt8) (p : P2) (h : Fits p.1 ∧ Fits p.2) : (pairText m1 m2 p).length ≤ 44 := by
  have := itoa_len _ h.1; have := itoa_len _ h.2
  simp [pairText]; omega
theorem pairsTo_len (m1 m2 : UInt8) (l : List UInt8) (xs : List P2) (h : WfP xs) (k : Nat) (hk : k ≤ xs.length) : (pairsTo m1 m2 l xs k).length ≤ l.length + 44 * k := by
  induction k with
  | zero => simp [pairsTo]
  | succ k ih =>
    have := ih (by omega)
    have := pair_len m1 m2 _ (h k (by omega))
    simp only [pairsTo, List.length_append]
    omega
theorem head_len (p q : Int) (hp : Fits p) (hq : Fits q) : (headText p q).length ≤ 44 := by
  have := itoa_len _ hp; have := itoa_len _ hq
  simp [headText]; omega
/-- The same behind what is there already. -/
theorem entText_behind (l : List UInt8) (e : EB) (h : e.n = false) : pairsTo 33 61 (pairsTo 63 47 (l ++ headText e.p e.q) e.xs e.xs.length) e.ys e.ys.length ++ (125 :: (Lib.itoa e.v ++ (58 :: Lib.itoa e.k))) = l ++ entText e := by
  unfold entText putsText readsText
  rw [h]
  simp only [Bool.false_eq_true, if_false]
  rw [pairsTo_app 33 61 (pairsTo 63 47 (l ++ headText e.p e.q) e.xs e.xs.length), pairsTo_app 63 47 (l ++ headText e.p e.q), pairsTo_app 33 61 (pairsTo 63 47 (headText e.p e.q) e.xs e.xs.length), pairsTo_app 63 47 (headText e.p e.q)]
  simp only [List.append_assoc]
theorem entText_ne (e : EB) : entText e ≠ [] := by
  unfold entText
  split <;> simp
theorem entText_len (e : EB) (h : WfE e) : (entText e).length ≤ 44 * (e.xs.length + e.ys.length) + 132 := by
  obtain ⟨f1, f2, f3, f4, f5, f6⟩ := h
  have a1 := head_len _ _ f1 f2
  have a2 := pairsTo_len 63 47 (headText e.p e.q) e.xs f3 _ (Nat.le_refl _)
  have a3 := pairsTo_len 33 61 (readsText e) e.ys f4 _ (Nat.le_refl _)
  have a4 := itoa_len _ f5
  have a5 := itoa_len _ f6
  unfold entText
  split
  · simp only [List.length_cons, List.length_nil]; omega
  · have e1 : (putsText e).length ≤ (readsText e).length + 44 * e.ys.length := a3
    have e2 : (readsText e).length ≤ (headText e.p e.q).length + 44 * e.xs.length := a2
    simp only [List.length_append, List.length_cons]
    omega
end Go.Proofs.YtokbakphfodabaaDoor.Own

namespace Go.Proofs.YtokbakphfodabaaDoor.Own
open Go.RowKit
set_option linter.unusedVariables false

/-- A struct of two cells whose head is a builder. -/
def Heads (T : TypeId) : Prop := liesAt Tryd.prog Tryd.prog.depth T (2 / Tryd.prog.cellsOf T) 0 92 1 = true ∧ T ≠ 5
theorem headsEntry : Heads 96 := ⟨by kernel_rfl, by decide⟩

set_option maxHeartbeats 1000000 in
set_option maxRecDepth 100000 in
theorem copyCheckFreshG (T : TypeId) (hT : Heads T) (b : Nat) (w : World) (h0 : w.cell? ⟨b, 0, none⟩ = some (.pointer none)) (hsh : w.shape? b = some (T, 2)) (hfz : w.frozen? ⟨b, 0, none⟩ = false) :
    Calls Tryd.prog 88 #[.pointer (some ⟨b, 0, none⟩)] w fun e w' => e = .returned (.tuple #[]) ∧ w' = w.setCell ⟨b, 0, none⟩ (.pointer (some ⟨b, 0, none⟩)) := by
  obtain ⟨j, hj, hjs⟩ := Option.map_eq_some_iff.1 sizeBuilder
  go_enter Tryd.func88, Tryd.ntmps88
  go_wp2
  rw [Lib.run_to_unsafe w ⟨b, 0, none⟩ Tryd.underlying90 Tryd.underlying162 hj (by rw [hjs]; decide) hsh (Nat.zero_lt_succ 1)]
  simp only [Result.andThen]
  rw [Oper.upon_value]
  go_wp2
  rw [run_callFunc_extern Tryd.func93 (by kernel_rfl) (by kernel_rfl) (by kernel_rfl) (e := Extern.AbiNoEscape.same) (by kernel_rfl)]
  rw [Lib.run_noEscape]
  simp only [Result.andThen]
  rw [Oper.upon_value]
  go_wp2
  rw [Lib.run_from_unsafe w ⟨b, 0, none⟩ Tryd.underlying162 Tryd.underlying90 hj hsh hT.1]
  simp only [Result.andThen]
  rw [Oper.upon_value]
  go_wp2
  go_end0
  exact ⟨rfl, rfl⟩

theorem copyCheckG (T : TypeId) (hT : Heads T) (B b : Nat) (bs : List Value) (w : World) (h : Lib.IsBuilder T 5 B b bs w) :
    Calls Tryd.prog 88 #[.pointer (some ⟨b, 0, none⟩)] w fun e w' => e = .returned (.tuple #[]) ∧ Lib.BuilderAt T 5 B b (.pointer (some ⟨b, 0, none⟩)) bs w' ∧ Below B w w' ∧ Lib.OthersKept 5 (some b) w w' := by
  rcases h with h | h
  · refine (copyCheckFreshG T hT b w h.cell0 h.shape h.frozen0).mono ?_
    rintro e w' ⟨rfl, rfl⟩
    exact ⟨rfl, h.used _, (Below.refl B w).setCell (p := ⟨b, 0, none⟩) h.1 _, (Lib.OthersKept.refl _ _ w).setCell ⟨b, 0, none⟩ rfl _⟩
  · refine (copyCheckUsed b w h.cell0).mono ?_
    rintro e w' ⟨rfl, rfl⟩
    exact ⟨rfl, h, Below.refl B _, Lib.OthersKept.refl _ _ _⟩

set_option maxHeartbeats 2000000 in
set_option maxRecDepth 100000 in
theorem writeStringG (T : TypeId) (hT : Heads T) (B b : Nat) (bs : List Value) (s : ByteArray) (w : World) (h : Lib.IsBuilder T 5 B b bs w) (hlen : bs.length + s.size ≤ 140737488355328) (hBw : B ≤ w.heap.size) :
    Calls Tryd.prog 79 #[.pointer (some ⟨b, 0, none⟩), .string s] w fun e w' => e = .returned (.tuple #[.int .i64 s.size, .nilIface]) ∧ Lib.BuilderAt T 5 B b (.pointer (some ⟨b, 0, none⟩)) (bs ++ Lib.strCells s) w' ∧ Below B w w' ∧ Lib.OthersKept 5 (some b) w w' := by
  obtain ⟨i0, hi, hz0, hz1, hz2⟩ := info_parts infoByte
  go_enter Tryd.func79, Tryd.ntmps79
  go_wp2_with (go_at_call 88; refine (copyCheckG T hT B b bs _ h).mono ?_)
  rintro e w1 ⟨rfl, h1, hb1, hk1⟩
  obtain ⟨hB, v, hbk, hown, hne⟩ := h1
  have c0 : w1.cell? ⟨b, 0, none⟩ = some (.pointer (some ⟨b, 0, none⟩)) := by rw [Lib.cell_of_heap hbk]; rfl
  have c1 : w1.cell? ⟨b, 1, none⟩ = some v := by rw [Lib.cell_of_heap hbk]; rfl
  go_wp2_with (at_builtin; refine Lib.wpList_append_own_string _ rfl _ _ 22 9 rfl B 5 i0 Tryd.underlying22 Tryd.underlying9 hi hz0 hz1 hz2 _ _ _ rfl hown s rfl ?c3 ?c4 ?c5 ?_)
  case c3 => unfold maxLen; omega
  case c4 => omega
  case c5 => have := hb1.size; omega
  intro v' w2 hown' hgrow _
  have hlt : b < w1.heap.size := by
    rcases Nat.lt_or_ge b w1.heap.size with h' | h'
    · exact h'
    · simp [Array.getElem?_eq_none h'] at hbk
  have hb2 : w2.heap[b]? = some (.cells #[.pointer (some ⟨b, 0, none⟩), v] T (0, 0)) := by
    rw [hgrow.block b hlt (fun e => hne e.symm)]
    exact hbk
  have d0 : w2.cell? ⟨b, 0, none⟩ = some (.pointer (some ⟨b, 0, none⟩)) := by rw [Lib.cell_of_heap hb2]; rfl
  have d1 : w2.cell? ⟨b, 1, none⟩ = some v := by rw [Lib.cell_of_heap hb2]; rfl
  have f1 : w2.frozen? ⟨b, 1, none⟩ = false := Lib.frozen_of_heap hb2 1
  obtain ⟨ao, n', cap, rfl⟩ : ∃ ao n' cap, v' = .slice ao n' cap := by
    rcases hown'.2 with ⟨hv, _⟩ | ⟨g, cap, cur, hv, _⟩
    · exact ⟨_, _, _, hv⟩
    · exact ⟨_, _, _, hv⟩
  go_wp2
  go_ret2
  refine ⟨rfl, ?_, ?_, (hk1.grown hgrow (ownsRow_kind hown)).setCell ⟨b, 1, none⟩ rfl _⟩
  · exact Lib.BuilderAt.put (T := T) (e := 5) hB hb2 (bs' := bs ++ Lib.strCells s) (by simpa [Lib.strCells_length] using hown') hT.2
  · exact (hb1.grown hgrow (by have := hb1.size; omega) (fun k hk => (hown.lt k hk).1)).setCell (p := ⟨b, 1, none⟩) hB _
set_option maxHeartbeats 1000000 in
set_option maxRecDepth 100000 in
theorem stringG (T : TypeId) (B b : Nat) (l : List UInt8) (w : World) (h : Lib.IsBuilder T 5 B b (Lib.byteCells l) w) (h0 : l ≠ []) :
    Calls Tryd.prog 54 #[.pointer (some ⟨b, 0, none⟩)] w fun e w' => e = .returned (.string ⟨l.toArray⟩) ∧ Below B w w' := by
  obtain ⟨p, hB, v, hbk, hown, hne⟩ : ∃ p, Lib.BuilderAt T 5 B b p (Lib.byteCells l) w := by
    rcases h with h | h
    · exact ⟨_, h⟩
    · exact ⟨_, h⟩
  have hl0 : l.length ≠ 0 := by simpa using h0
  rw [Lib.byteCells_length] at hown
  obtain ⟨g, cap, cur, rfl, hbg, hg, hnc, hcm, hcs, htake⟩ : ∃ g cap cur, v = .slice (some ⟨g, 0, none⟩) l.length cap ∧ B ≤ g ∧ w.heap[g]? = some (.cells cur 5 (0, 0)) ∧ l.length ≤ cap ∧ cap ≤ maxLen ∧ cur.size = cap * 1 ∧ cur.toList.take (l.length * 1) = Lib.byteCells l := by
    rcases hown.2 with ⟨_, hz⟩ | ⟨g, cap, cur, hv, r⟩
    · exact absurd hz hl0
    · exact ⟨g, cap, cur, hv, r⟩
  have c1 : w.drew.cell? ⟨b, 1, none⟩ = some (.slice (some ⟨g, 0, none⟩) l.length cap) := by
    have : w.drew.heap[b]? = some (.cells #[p, .slice (some ⟨g, 0, none⟩) l.length cap] T (0, 0)) := hbk
    rw [Lib.cell_of_heap this]; rfl
  have hSD : (Builtin.unsafeSliceData_ #[22] 139 #[.slice (some ⟨g, 0, none⟩) l.length cap]).run Tryd.prog w.drew = .ok (.pointer (some ⟨g, 0, none⟩)) w.drew :=
    Lib.run_unsafeSliceData_row _ _ _ _ _ _ (by omega)
  have hUS : (Builtin.unsafeString_ #[139, 3] 9 #[.pointer (some ⟨g, 0, none⟩), .int .i64 l.length]).run Tryd.prog w.drew = .ok (.string ⟨l.toArray⟩) (w.drew.freeze ⟨g, 0, none⟩ l.length) := by
    refine Lib.run_unsafeString_row w.drew 139 3 9 5 Tryd.underlying139 (by kernel_rfl) g cur.size (by have hg' : w.drew.heap[g]? = some (.cells cur 5 (0, 0)) := hg; simp [World.shape?, hg']) l h0 (by omega) (by unfold maxLen at hcm; omega) ?_
    intro j x hx
    have := hown.cells (g := g) rfl j (.int .u8 x.toNat) (by simp [Lib.byteCells, hx])
    exact this
  have mixed : Tryd.prog.follows Departure.mixedOrders = true := by kernel_rfl
  go_enter Tryd.func54, Tryd.ntmps54
  go_wp2
  go_region_o
  all_goals (go_wp2; go_ret; exact ⟨rfl, Lib.below_freeze (Below.drew (Below.refl B w)) (p := ⟨g, 0, none⟩) hbg _⟩)
end Go.Proofs.YtokbakphfodabaaDoor.Own

namespace Go.Proofs.YtokbakphfodabaaDoor.Own
open Go.RowKit
set_option linter.unusedVariables false
set_option linter.unusedSimpArgs false

/-- A builder at the head of block b holds this text. -/
def Bd (T : TypeId) (B b : Nat) (l : List UInt8) (w : World) : Prop := Lib.IsBuilder T 5 B b (Lib.byteCells l) w
theorem Bd.below {T : TypeId} {B b : Nat} {l : List UInt8} {w w' : World} (h : Bd T B b l w) (hb : Below w.heap.size w w') : Bd T B b l w' := isBuilder_keep h hb
theorem Bd.eq {T : TypeId} {B b : Nat} {l l' : List UInt8} {w : World} (h : Bd T B b l w) (e : l = l') : Bd T B b l' w := e ▸ h
theorem Bd.lt {T : TypeId} {B b : Nat} {l : List UInt8} {w : World} (h : Bd T B b l w) : b < w.heap.size := by
  rcases h with h | h
  · exact h.lt
  · exact h.lt
theorem kept_below {T : TypeId} {b : Nat} {w w' : World} (h : Below w.heap.size w w') : Lib.OthersKept T (some b) w w' := fun k o hk _ _ => by
  rw [h.block k (Array.getElem?_eq_some_iff.1 hk).1]; exact hk
theorem Blk.kept {w w' : World} {pb b : Nat} {C : Array Value} {t : TypeId} (h : Blk w pb C t) (k : Lib.OthersKept 5 (some b) w w') (hn : pb ≠ b) (ht : t ≠ 5) : Blk w' pb C t :=
  k pb _ h (fun e => hn (Option.some.inj e)) (fun c fz e => by injection e with _ e2 _; exact ht e2)

set_option maxRecDepth 100000 in
set_option maxHeartbeats 2000000 in
theorem writeG (T : TypeId) (hT : Heads T) (B b : Nat) (l m : List UInt8) (w : World) (h : Bd T B b l w) (hlen : l.length + m.length ≤ 2 ^ 46) (hBw : B ≤ w.heap.size) :
    Calls Tryd.prog 79 #[.pointer (some ⟨b, 0, none⟩), .string (str m)] w fun e w' => e = .returned (.tuple #[.int .i64 m.length, .nilIface]) ∧ Bd T B b (l ++ m) w' ∧ Below B w w' ∧ Lib.OthersKept 5 (some b) w w' := by
  have hml : (str m).size = m.length := str_size m
  refine (writeStringG T hT B b (Lib.byteCells l) (str m) w h (by rw [Lib.byteCells_length, hml]; omega) hBw).mono ?_
  rintro e w' ⟨rfl, d1, b1, k1⟩
  rw [cells_snoc] at d1
  exact ⟨by rw [hml], .inr d1, b1, k1⟩

set_option maxRecDepth 100000 in
set_option maxHeartbeats 2000000 in
theorem implNumber (T : TypeId) (hT : Heads T) (B b : Nat) (l m : List UInt8) (z : Int) (w : World) (h : Bd T B b l w) (hz : Fits z) (hB : ∀ w', Below B w w' → Tab w') (hlen : l.length + m.length ≤ 2 ^ 44) (hBw : B ≤ w.heap.size) :
    Calls Tryd.prog 80 #[.pointer (some ⟨b, 0, none⟩), .string (str m), .int .i64 z] w fun e w' => e = .returned (.tuple #[]) ∧ Bd T B b (l ++ (m ++ Lib.itoa z)) w' ∧ Below B w w' ∧ Lib.OthersKept 5 (some b) w w' := by
  have HB : Hid (∀ w', Below B w w' → Tab w') := hB
  have ZL := itoa_len z hz
  have C1 : Hid _ := writeG T hT B b l m w h (by omega) hBw
  obtain ⟨s, hs⟩ : ∃ s, s = str m := ⟨_, rfl⟩
  rw [← hs] at C1 ⊢
  clear hs
  obtain ⟨t, et⟩ : ∃ t, t = str (Lib.itoa z) := ⟨_, rfl⟩
  have CI : Hid (∀ w', Tab w' → Calls Tryd.prog 89 #[.int .i64 z] w' fun e w'' => e = .returned (.string t) ∧ Below w'.heap.size w' w'') := fun w' ht => by rw [et]; exact itoaC z w' hz ht
  have C2 : Hid (∀ w', Bd T B b (l ++ m) w' → B ≤ w'.heap.size → Calls Tryd.prog 79 #[.pointer (some ⟨b, 0, none⟩), .string t] w' fun e w'' => e = .returned (.tuple #[.int .i64 (Lib.itoa z).length, .nilIface]) ∧ Bd T B b (l ++ (m ++ Lib.itoa z)) w'' ∧ Below B w' w'' ∧ Lib.OthersKept 5 (some b) w' w'') := fun w' h' hb' => by
    have h2 := writeG T hT B b (l ++ m) (Lib.itoa z) w' h' (by rw [List.length_append]; omega) hb'
    rw [← et, List.append_assoc] at h2
    exact h2
  clear et h hB ZL
  go_enter Tryd.func80, Tryd.ntmps80
  go_wp2_with fail
  refine Calls.mono C1.out ?_
  rintro e w1 ⟨rfl, d1, b1, k1⟩
  have D1 : Hid (Bd T B b (l ++ m) w1) := d1
  have B1 : Hid (Below B w w1) := b1
  have K1 : Hid (Lib.OthersKept 5 (some b) w w1) := k1
  have S1 : Hid (B ≤ w1.heap.size) := Nat.le_trans hBw b1.size
  clear d1 b1 k1
  go_wp2_with fail
  go_region_with (first | (go_at_call 89; refine (CI.out _ ?_).mono ?_; exact HB.out _ (Below.drew B1.out); rintro e w2 ⟨rfl, b2⟩; have X2 : Hid (Below w1.heap.size w1 w2) := Below.trans (Below.drew (Below.refl _ _)) b2; have D2 : Hid (Bd T B b (l ++ m) w2) := D1.out.below X2.out; have K2 : Hid (Lib.OthersKept 5 (some b) w w2) := K1.out.trans (kept_below X2.out); have B2 : Hid (Below B w w2) := B1.out.trans (X2.out.mono S1.out); clear b2) | (go_at_call 79; refine (C2.out w2 D2.out (Nat.le_trans hBw B2.out.size)).mono ?_; rintro e w3 ⟨rfl, d3, b3, k3⟩; have D3 : Hid (Bd T B b (l ++ (m ++ Lib.itoa z)) w3) := d3; have B3 : Hid (Below B w w3) := B2.out.trans b3; have K3 : Hid (Lib.OthersKept 5 (some b) w w3) := K2.out.trans k3; clear d3 b3 k3))
  all_goals
    go_wp2
    go_end0
    exact ⟨rfl, D3.out, B3.out, K3.out⟩
end Go.Proofs.YtokbakphfodabaaDoor.Own

namespace Go.Proofs.YtokbakphfodabaaDoor.Own
open Go.RowKit
set_option linter.unusedVariables false
set_option linter.unusedSimpArgs false

set_option maxRecDepth 100000 in
set_option maxHeartbeats 4000000 in
theorem implEntryNone (T : TypeId) (hT : Heads T) (B b : Nat) (l : List UInt8) (p q : Int) (a1 a2 : Option Addr) (n1 n2 c1 c2 : Nat) (v k : Int) (w : World) (h : Bd T B b l w) (ll : l.length ≤ 2 ^ 42) (hBw : B ≤ w.heap.size) :
    Calls Tryd.prog 53 #[.pointer (some ⟨b, 0, none⟩), .agg #[.bool true, .int .i64 p, .int .i64 q, .slice a1 n1 c1, .slice a2 n2 c2, .int .i64 v, .int .i64 k]] w fun e w' => e = .returned (.tuple #[]) ∧ Bd T B b (l ++ [110, 111, 110, 101]) w' ∧ Below B w w' ∧ Lib.OthersKept 5 (some b) w w' := by
  obtain ⟨W, hW⟩ : ∃ W, W = w.alloc (.cells #[.bool true, .int .i64 p, .int .i64 q, .slice a1 n1 c1, .slice a2 n2 c2, .int .i64 v, .int .i64 k] 34) := ⟨_, rfl⟩
  have bW : Below w.heap.size w W := by rw [hW]; exact (Below.refl _ _).alloc (Nat.le_refl _) _
  have BW : Hid (Below B w W) := bW.mono hBw
  have C : Hid _ := writeG T hT B b l [110, 111, 110, 101] W (h.below bW) (by simp only [List.length_cons, List.length_nil]; omega) (Nat.le_trans hBw bW.size)
  have K0 : Hid (Lib.OthersKept 5 (some b) w W) := kept_below bW
  have HW : Hid (W = _) := hW
  clear hW bW h
  go_enter Tryd.func53, Tryd.ntmps53
  go_wp2_with fail
  rw [← HW.out]
  refine Calls.mono C.out ?_
  rintro e w1 ⟨rfl, d1, b1, k1⟩
  have D1 : Hid (Bd T B b (l ++ [110, 111, 110, 101]) w1) := d1
  have B1 : Hid (Below B w w1) := BW.out.trans b1
  have K1 : Hid (Lib.OthersKept 5 (some b) w w1) := K0.out.trans k1
  clear d1 b1 k1
  go_wp2
  first | go_end0 | refine bodyPost_ret (results_none rfl _ _ _) rfl ?_
  exact ⟨rfl, D1.out, B1.out, K1.out⟩

set_option maxRecDepth 100000 in
set_option maxHeartbeats 4000000 in
theorem implEntryRun (T : TypeId) (hT : Heads T) (B b : Nat) (l : List UInt8) (p q : Int) (a1 a2 : Option Addr) (c1 c2 : Nat) (xs ys : List P2) (v k : Int) (w : World) (h : Bd T B b l w) (hf : WfE ⟨false, p, q, xs, ys, v, k⟩) (hTab : ∀ w', Below B w w' → Tab w') (hX : ∀ w', Below B w w' → Sl w' a1 xs) (hY : ∀ w', Below B w w' → Sl w' a2 ys) (lx : xs.length ≤ 2 ^ 30) (ly : ys.length ≤ 2 ^ 30) (ll : l.length ≤ 2 ^ 42) (hBw : B ≤ w.heap.size) :
    Calls Tryd.prog 53 #[.pointer (some ⟨b, 0, none⟩), .agg #[.bool false, .int .i64 p, .int .i64 q, .slice a1 xs.length c1, .slice a2 ys.length c2, .int .i64 v, .int .i64 k]] w fun e w' => e = .returned (.tuple #[]) ∧ Bd T B b (l ++ entText ⟨false, p, q, xs, ys, v, k⟩) w' ∧ Below B w w' ∧ Lib.OthersKept 5 (some b) w w' := by
  have HT : Hid (∀ w', Below B w w' → Tab w') := hTab
  have HX : Hid (∀ w', Below B w w' → Sl w' a1 xs) := hX
  have HY : Hid (∀ w', Below B w w' → Sl w' a2 ys) := hY
  obtain ⟨fp, fq, wx, wy, fv, fk⟩ := hf
  have FP : Hid (Fits p) := fp
  have FQ : Hid (Fits q) := fq
  have WX : Hid (WfP xs) := wx
  have WY : Hid (WfP ys) := wy
  have FV : Hid (Fits v) := fv
  have FK : Hid (Fits k) := fk
  have SB : Hid (B ≤ w.heap.size) := hBw
  have HL := head_len p q fp fq
  simp only at fp fq wx wy fv fk
  obtain ⟨L1, hL1⟩ : ∃ L1, L1 = l ++ headText p q := ⟨_, rfl⟩
  have EL1 : Hid (((l ++ ([] ++ Lib.itoa p)) ++ ([46] ++ Lib.itoa q)) ++ [123] = L1) := by show _ = _; rw [hL1]; simp [headText]
  have l1 : L1.length ≤ 2 ^ 42 + 44 := by rw [hL1, List.length_append]; omega
  obtain ⟨L2, hL2⟩ : ∃ L2, L2 = pairsTo 63 47 L1 xs xs.length := ⟨_, rfl⟩
  have M1 : Hid (∀ j, j ≤ xs.length → (pairsTo 63 47 L1 xs j).length ≤ 2 ^ 43) := fun j hj => by have := pairsTo_len 63 47 L1 xs wx j hj; omega
  have l2 : L2.length ≤ 2 ^ 42 + 44 + 44 * 2 ^ 30 := by rw [hL2]; have := pairsTo_len 63 47 L1 xs wx _ (Nat.le_refl _); omega
  have M2 : Hid (∀ j, j ≤ ys.length → (pairsTo 33 61 L2 ys j).length ≤ 2 ^ 43) := fun j hj => by have := pairsTo_len 33 61 L2 ys wy j hj; omega
  have EF : Hid ((pairsTo 33 61 L2 ys ys.length ++ ([125] ++ Lib.itoa v)) ++ ([58] ++ Lib.itoa k) = l ++ entText ⟨false, p, q, xs, ys, v, k⟩) := by
    show _ = _
    rw [← entText_behind l ⟨false, p, q, xs, ys, v, k⟩ rfl, hL2, hL1]
    simp
  have EL2 : Hid (pairsTo 63 47 L1 xs xs.length = L2) := hL2.symm
  generalize l ++ entText ⟨false, p, q, xs, ys, v, k⟩ = FIN at EF ⊢
  have CN : Hid (∀ (l' m : List UInt8) (z : Int) (w' : World), Fits z → Bd T B b l' w' → Below B w w' → l'.length + m.length ≤ 2 ^ 44 → Calls Tryd.prog 80 #[.pointer (some ⟨b, 0, none⟩), .string (str m), .int .i64 z] w' fun e w'' => e = .returned (.tuple #[]) ∧ Bd T B b (l' ++ (m ++ Lib.itoa z)) w'' ∧ Below B w' w'' ∧ Lib.OthersKept 5 (some b) w' w'') :=
    fun l' m z w' hz hd hb hlen => implNumber T hT B b l' m z w' hd hz (fun w'' hw => HT.out w'' (hb.trans hw)) hlen (Nat.le_trans hBw hb.size)
  have CW : Hid (∀ (l' m : List UInt8) (w' : World), Bd T B b l' w' → Below B w w' → l'.length + m.length ≤ 2 ^ 46 → Calls Tryd.prog 79 #[.pointer (some ⟨b, 0, none⟩), .string (str m)] w' fun e w'' => e = .returned (.tuple #[.int .i64 m.length, .nilIface]) ∧ Bd T B b (l' ++ m) w'' ∧ Below B w' w'' ∧ Lib.OthersKept 5 (some b) w' w'') :=
    fun l' m w' hd hb hlen => writeG T hT B b l' m w' hd hlen (Nat.le_trans hBw hb.size)
  have hblt := h.lt
  have NEE : Hid (w.heap.size ≠ b) := by show _ ≠ _; omega
  obtain ⟨W, hW⟩ : ∃ W, W = w.alloc (.cells #[.bool false, .int .i64 p, .int .i64 q, .slice a1 xs.length c1, .slice a2 ys.length c2, .int .i64 v, .int .i64 k] 34) := ⟨_, rfl⟩
  have bW : Below w.heap.size w W := by rw [hW]; exact (Below.refl _ _).alloc (Nat.le_refl _) _
  have B0 : Hid (Below B w W) := bW.mono hBw
  have E0 : Hid (Blk W w.heap.size #[.bool false, .int .i64 p, .int .i64 q, .slice a1 xs.length c1, .slice a2 ys.length c2, .int .i64 v, .int .i64 k] 34) := by show Blk _ _ _ _; rw [hW]; exact Blk.new _ _ _
  have D0 : Hid (Bd T B b l W) := h.below bW
  have K0 : Hid (Lib.OthersKept 5 (some b) w W) := kept_below bW
  have ip := itoa_len p fp
  have iq := itoa_len q fq
  have LB0 : Hid (l.length + ([] : List UInt8).length ≤ 2 ^ 44) := by show _ ≤ _; simp only [List.length_nil]; omega
  have LB1 : Hid ((l ++ ([] ++ Lib.itoa p)).length + ([46] : List UInt8).length ≤ 2 ^ 44) := by show _ ≤ _; simp only [List.length_append, List.length_nil, List.length_cons]; omega
  have LB2 : Hid (((l ++ ([] ++ Lib.itoa p)) ++ ([46] ++ Lib.itoa q)).length + ([123] : List UInt8).length ≤ 2 ^ 46) := by show _ ≤ _; simp only [List.length_append, List.length_nil, List.length_cons]; omega
  have iv := itoa_len v fv
  have LB5 : Hid ((pairsTo 33 61 L2 ys ys.length).length + ([125] : List UInt8).length ≤ 2 ^ 44) := by show _ ≤ _; have := M2.out ys.length (Nat.le_refl _); simp only [List.length_cons, List.length_nil]; omega
  have LB6 : Hid ((pairsTo 33 61 L2 ys ys.length ++ ([125] ++ Lib.itoa v)).length + ([58] : List UInt8).length ≤ 2 ^ 44) := by show _ ≤ _; have := M2.out ys.length (Nat.le_refl _); simp only [List.length_append, List.length_cons, List.length_nil]; omega
  have HW : Hid (W = _) := hW
  clear hW bW h hTab hX hY hT fp fq wx wy fv fk hL1 hL2 l1 l2 HL ll hblt ip iq iv hBw
  have BW := B0.out
  obtain ⟨q0, q1, q2, q3, q4, q5, q6⟩ := E0.out.cells7
  clear BW
  go_enter Tryd.func53, Tryd.ntmps53
  go_upto_region 3 with fail
  rw [← HW.out]
  go_region_with (go_at_call 80; refine (CN.out (l) [] p _ FP.out ?_ ?_ ?_).mono ?_; exact Bd.below D0.out (Below.drew (Below.refl _ _)); exact Below.drew B0.out; exact LB0.out; rintro e w1 ⟨rfl, d', b', k'⟩; have D1 : Hid (Bd T B b ((l) ++ ([] ++ Lib.itoa p)) w1) := d'; have B1 : Hid (Below B w w1) := (Below.drew B0.out).trans b'; have K1 : Hid (Lib.OthersKept 5 (some b) w w1) := (Lib.OthersKept.drew K0.out).trans k'; have E1 : Hid (Blk w1 w.heap.size _ _) := E0.out.kept k' NEE.out (by decide); clear d' b' k')
  clear q0 q1 q2 q3 q4 q5 q6
  obtain ⟨q0, q1, q2, q3, q4, q5, q6⟩ := E1.out.cells7
  go_upto_region 4 with fail
  go_region_with (go_at_call 80; refine (CN.out (l ++ ([] ++ Lib.itoa p)) [46] q _ FQ.out ?_ ?_ ?_).mono ?_; exact Bd.below D1.out (Below.drew (Below.refl _ _)); exact Below.drew B1.out; exact LB1.out; rintro e w2 ⟨rfl, d', b', k'⟩; have D2 : Hid (Bd T B b ((l ++ ([] ++ Lib.itoa p)) ++ ([46] ++ Lib.itoa q)) w2) := d'; have B2 : Hid (Below B w w2) := (Below.drew B1.out).trans b'; have K2 : Hid (Lib.OthersKept 5 (some b) w w2) := (Lib.OthersKept.drew K1.out).trans k'; have E2 : Hid (Blk w2 w.heap.size _ _) := E1.out.kept k' NEE.out (by decide); clear d' b' k')
  clear q0 q1 q2 q3 q4 q5 q6
  obtain ⟨q0, q1, q2, q3, q4, q5, q6⟩ := E2.out.cells7
  go_wp2_with fail
  refine (CW.out _ [123] w2 D2.out B2.out LB2.out).mono ?_
  rintro e w3 ⟨rfl, d', b', k'⟩
  rw [EL1.out] at d'
  have D3 : Hid (Bd T B b L1 w3) := d'
  have B3 : Hid (Below B w w3) := B2.out.trans b'
  have K3 : Hid (Lib.OthersKept 5 (some b) w w3) := K2.out.trans k'
  have E3 : Hid (Blk w3 w.heap.size #[.bool false, .int .i64 p, .int .i64 q, .slice a1 xs.length c1, .slice a2 ys.length c2, .int .i64 v, .int .i64 k] 34) := E2.out.kept k' NEE.out (by decide)
  clear d' b' k' q0 q1 q2 q3 q4 q5 q6 D0 D1 D2 B0 B1 B2 E0 E1 E2 K0 K1 K2 LB0 LB1 LB2
  obtain ⟨q0, q1, q2, q3, q4, q5, q6⟩ := E3.out.cells7
  go_wp2_with fail
  clear q0 q1 q2 q3 q4 q5 q6
  go_loopw [38] (fun i wr => ∃ j : Nat, j ≤ xs.length ∧ i = .int .i64 j ∧ Hid (Bd T B b (pairsTo 63 47 L1 xs j) wr) ∧ Hid (Below B w wr) ∧ Hid (Blk wr w.heap.size #[.bool false, .int .i64 p, .int .i64 q, .slice a1 xs.length c1, .slice a2 ys.length c2, .int .i64 v, .int .i64 k] 34) ∧ Hid (Lib.OthersKept 5 (some b) w wr)) (fun i _ => xs.length - (intOf i).toNat)
  case atStart => exact ⟨0, Nat.zero_le _, rfl, D3.out, B3.out, E3.out, K3.out⟩
  case round =>
    obtain ⟨j, hj, rfl, DR, BR, ER, KR⟩ := hrel
    by_cases hlt : j < xs.length
    · have hji : (j : Int) < (xs.length : Int) := by omega
      rcases HX.out wr BR.out with hh | ⟨b1, o1, rfl, hb1, hh⟩
      · rw [hh] at hlt; simp at hlt
      obtain ⟨d0, d1⟩ := hh j hlt
      have FX := WX.out j hlt
      have NX : Hid ((pairsTo 63 47 L1 xs j ++ ([63] ++ Lib.itoa (xs.getD j (0, 0)).1)) ++ ([47] ++ Lib.itoa (xs.getD j (0, 0)).2) = pairsTo 63 47 L1 xs (j + 1)) := by show _ = _; simp [pairsTo, pairText]
      have LB0 : Hid ((pairsTo 63 47 L1 xs j).length + ([63] : List UInt8).length ≤ 2 ^ 44) := by show _ ≤ _; have := M1.out j (by omega); simp only [List.length_cons, List.length_nil]; omega
      clear hh
      generalize xs.getD j (0, 0) = pr at d0 d1 FX NX
      obtain ⟨p1, p2⟩ := pr
      simp only at d0 d1 FX NX
      have ip := itoa_len p1 FX.1
      have F1 : Hid (Fits p1) := FX.1
      have F2 : Hid (Fits p2) := FX.2
      have LB1 : Hid ((pairsTo 63 47 L1 xs j ++ ([63] ++ Lib.itoa p1)).length + ([47] : List UInt8).length ≤ 2 ^ 44) := by show _ ≤ _; have := M1.out j (by omega); simp only [List.length_append, List.length_cons, List.length_nil]; omega
      clear ip FX
      have hblt := DR.out.lt
      obtain ⟨X, hX⟩ : ∃ X, X = wr.alloc (.cells #[.int .i64 p1, .int .i64 p2] 101) := ⟨_, rfl⟩
      have bX : Below wr.heap.size wr X := by rw [hX]; exact (Below.refl _ _).alloc (Nat.le_refl _) _
      have B0 : Hid (Below B w X) := BR.out.trans (bX.mono (Nat.le_trans SB.out BR.out.size))
      have D0 : Hid (Bd T B b (pairsTo 63 47 L1 xs j) X) := DR.out.below bX
      have E0 : Hid (Blk X w.heap.size _ _) := ER.out.keep bX
      have K0 : Hid (Lib.OthersKept 5 (some b) w X) := KR.out.trans (kept_below bX)
      have R0 : Hid (Blk X wr.heap.size #[.int .i64 p1, .int .i64 p2] 101) := by show Blk _ _ _ _; rw [hX]; exact Blk.new _ _ _
      have NER : Hid (wr.heap.size ≠ b) := by show _ ≠ _; omega
      have HX2 : Hid (X = _) := hX
      clear hX bX hblt
      go_upto_region 9 with fail
      rw [← HX2.out]
      clear d0 d1
      obtain ⟨s0, s1⟩ := R0.out.cells2
      go_region_with (go_at_call 80; refine (CN.out (pairsTo 63 47 L1 xs j) [63] p1 _ F1.out ?_ ?_ ?_).mono ?_; exact Bd.below D0.out (Below.drew (Below.refl _ _)); exact Below.drew B0.out; exact LB0.out; rintro e w1 ⟨rfl, d', b', k'⟩; have D1 : Hid (Bd T B b ((pairsTo 63 47 L1 xs j) ++ ([63] ++ Lib.itoa p1)) w1) := d'; have B1 : Hid (Below B w w1) := (Below.drew B0.out).trans b'; have K1 : Hid (Lib.OthersKept 5 (some b) w w1) := (Lib.OthersKept.drew K0.out).trans k'; have E1 : Hid (Blk w1 w.heap.size _ _) := E0.out.kept k' NEE.out (by decide); have R1 : Hid (Blk w1 wr.heap.size #[.int .i64 p1, .int .i64 p2] 101) := R0.out.kept k' NER.out (by decide); clear d' b' k')
      clear s0 s1
      obtain ⟨s0, s1⟩ := R1.out.cells2
      go_upto_region 10 with fail
      go_region_with (go_at_call 80; refine (CN.out (pairsTo 63 47 L1 xs j ++ ([63] ++ Lib.itoa p1)) [47] p2 _ F2.out ?_ ?_ ?_).mono ?_; exact Bd.below D1.out (Below.drew (Below.refl _ _)); exact Below.drew B1.out; exact LB1.out; rintro e w2 ⟨rfl, d', b', k'⟩; have D2 : Hid (Bd T B b ((pairsTo 63 47 L1 xs j ++ ([63] ++ Lib.itoa p1)) ++ ([47] ++ Lib.itoa p2)) w2) := d'; have B2 : Hid (Below B w w2) := (Below.drew B1.out).trans b'; have K2 : Hid (Lib.OthersKept 5 (some b) w w2) := (Lib.OthersKept.drew K1.out).trans k'; have E2 : Hid (Blk w2 w.heap.size _ _) := E1.out.kept k' NEE.out (by decide); clear d' b' k')
      go_wp2_with fail
      go_roundw
      case rel => exact ⟨j + 1, by omega, by go_num, by show Bd _ _ _ _ _; rw [← NX.out]; exact D2.out, B2.out, E2.out, K2.out⟩
      case measure => simp [intOf]; omega
    · have hji : ¬ (j : Int) < (xs.length : Int) := by omega
      obtain rfl : j = xs.length := by omega
      rw [EL2.out] at DR
      obtain ⟨q0, q1, q2, q3, q4, q5, q6⟩ := ER.out.cells7
      go_wp2_with fail
      clear q0 q1 q2 q3 q4 q5 q6
      go_loopw [59] (fun i wr => ∃ j : Nat, j ≤ ys.length ∧ i = .int .i64 j ∧ Hid (Bd T B b (pairsTo 33 61 L2 ys j) wr) ∧ Hid (Below B w wr) ∧ Hid (Blk wr w.heap.size #[.bool false, .int .i64 p, .int .i64 q, .slice a1 xs.length c1, .slice a2 ys.length c2, .int .i64 v, .int .i64 k] 34) ∧ Hid (Lib.OthersKept 5 (some b) w wr)) (fun i _ => ys.length - (intOf i).toNat)
      case atStart => exact ⟨0, Nat.zero_le _, rfl, DR.out, BR.out, ER.out, KR.out⟩
      case round =>
        obtain ⟨j, hj, rfl, DR, BR, ER, KR⟩ := hrel
        by_cases hlt : j < ys.length
        · have hji : (j : Int) < (ys.length : Int) := by omega
          rcases HY.out wr BR.out with hh | ⟨b1, o1, rfl, hb1, hh⟩
          · rw [hh] at hlt; simp at hlt
          obtain ⟨d0, d1⟩ := hh j hlt
          have FX := WY.out j hlt
          have NX : Hid ((pairsTo 33 61 L2 ys j ++ ([33] ++ Lib.itoa (ys.getD j (0, 0)).1)) ++ ([61] ++ Lib.itoa (ys.getD j (0, 0)).2) = pairsTo 33 61 L2 ys (j + 1)) := by show _ = _; simp [pairsTo, pairText]
          have LB0 : Hid ((pairsTo 33 61 L2 ys j).length + ([33] : List UInt8).length ≤ 2 ^ 44) := by show _ ≤ _; have := M2.out j (by omega); simp only [List.length_cons, List.length_nil]; omega
          clear hh
          generalize ys.getD j (0, 0) = pr at d0 d1 FX NX
          obtain ⟨p1, p2⟩ := pr
          simp only at d0 d1 FX NX
          have ip := itoa_len p1 FX.1
          have F1 : Hid (Fits p1) := FX.1
          have F2 : Hid (Fits p2) := FX.2
          have LB1 : Hid ((pairsTo 33 61 L2 ys j ++ ([33] ++ Lib.itoa p1)).length + ([61] : List UInt8).length ≤ 2 ^ 44) := by show _ ≤ _; have := M2.out j (by omega); simp only [List.length_append, List.length_cons, List.length_nil]; omega
          clear ip FX
          have hblt := DR.out.lt
          obtain ⟨X, hX⟩ : ∃ X, X = wr.alloc (.cells #[.int .i64 p1, .int .i64 p2] 56) := ⟨_, rfl⟩
          have bX : Below wr.heap.size wr X := by rw [hX]; exact (Below.refl _ _).alloc (Nat.le_refl _) _
          have B0 : Hid (Below B w X) := BR.out.trans (bX.mono (Nat.le_trans SB.out BR.out.size))
          have D0 : Hid (Bd T B b (pairsTo 33 61 L2 ys j) X) := DR.out.below bX
          have E0 : Hid (Blk X w.heap.size _ _) := ER.out.keep bX
          have K0 : Hid (Lib.OthersKept 5 (some b) w X) := KR.out.trans (kept_below bX)
          have R0 : Hid (Blk X wr.heap.size #[.int .i64 p1, .int .i64 p2] 56) := by show Blk _ _ _ _; rw [hX]; exact Blk.new _ _ _
          have NER : Hid (wr.heap.size ≠ b) := by show _ ≠ _; omega
          have HX2 : Hid (X = _) := hX
          clear hX bX hblt
          go_upto_region 15 with fail
          rw [← HX2.out]
          clear d0 d1
          obtain ⟨s0, s1⟩ := R0.out.cells2
          go_region_with (go_at_call 80; refine (CN.out (pairsTo 33 61 L2 ys j) [33] p1 _ F1.out ?_ ?_ ?_).mono ?_; exact Bd.below D0.out (Below.drew (Below.refl _ _)); exact Below.drew B0.out; exact LB0.out; rintro e w1 ⟨rfl, d', b', k'⟩; have D1 : Hid (Bd T B b ((pairsTo 33 61 L2 ys j) ++ ([33] ++ Lib.itoa p1)) w1) := d'; have B1 : Hid (Below B w w1) := (Below.drew B0.out).trans b'; have K1 : Hid (Lib.OthersKept 5 (some b) w w1) := (Lib.OthersKept.drew K0.out).trans k'; have E1 : Hid (Blk w1 w.heap.size _ _) := E0.out.kept k' NEE.out (by decide); have R1 : Hid (Blk w1 wr.heap.size #[.int .i64 p1, .int .i64 p2] 56) := R0.out.kept k' NER.out (by decide); clear d' b' k')
          clear s0 s1
          obtain ⟨s0, s1⟩ := R1.out.cells2
          go_upto_region 16 with fail
          go_region_with (go_at_call 80; refine (CN.out (pairsTo 33 61 L2 ys j ++ ([33] ++ Lib.itoa p1)) [61] p2 _ F2.out ?_ ?_ ?_).mono ?_; exact Bd.below D1.out (Below.drew (Below.refl _ _)); exact Below.drew B1.out; exact LB1.out; rintro e w2 ⟨rfl, d', b', k'⟩; have D2 : Hid (Bd T B b ((pairsTo 33 61 L2 ys j ++ ([33] ++ Lib.itoa p1)) ++ ([61] ++ Lib.itoa p2)) w2) := d'; have B2 : Hid (Below B w w2) := (Below.drew B1.out).trans b'; have K2 : Hid (Lib.OthersKept 5 (some b) w w2) := (Lib.OthersKept.drew K1.out).trans k'; have E2 : Hid (Blk w2 w.heap.size _ _) := E1.out.kept k' NEE.out (by decide); clear d' b' k')
          go_wp2_with fail
          go_roundw
          case rel => exact ⟨j + 1, by omega, by go_num, by show Bd _ _ _ _ _; rw [← NX.out]; exact D2.out, B2.out, E2.out, K2.out⟩
          case measure => simp [intOf]; omega
        · have hji : ¬ (j : Int) < (ys.length : Int) := by omega
          obtain rfl : j = ys.length := by omega
          have D5 : Hid (Bd T B b (pairsTo 33 61 L2 ys ys.length) wr) := DR.out
          have B5 : Hid (Below B w wr) := BR.out
          have E5 : Hid (Blk wr w.heap.size _ _) := ER.out
          have K5 : Hid (Lib.OthersKept 5 (some b) w wr) := KR.out
          obtain ⟨q0, q1, q2, q3, q4, q5, q6⟩ := ER.out.cells7
          go_upto_region 18 with fail
          go_region_with (go_at_call 80; refine (CN.out (pairsTo 33 61 L2 ys ys.length) [125] v _ FV.out ?_ ?_ ?_).mono ?_; exact Bd.below D5.out (Below.drew (Below.refl _ _)); exact Below.drew B5.out; exact LB5.out; rintro e w6 ⟨rfl, d', b', k'⟩; have D6 : Hid (Bd T B b ((pairsTo 33 61 L2 ys ys.length) ++ ([125] ++ Lib.itoa v)) w6) := d'; have B6 : Hid (Below B w w6) := (Below.drew B5.out).trans b'; have K6 : Hid (Lib.OthersKept 5 (some b) w w6) := (Lib.OthersKept.drew K5.out).trans k'; have E6 : Hid (Blk w6 w.heap.size _ _) := E5.out.kept k' NEE.out (by decide); clear d' b' k')
          clear q0 q1 q2 q3 q4 q5 q6
          obtain ⟨q0, q1, q2, q3, q4, q5, q6⟩ := E6.out.cells7
          go_upto_region 19 with fail
          go_region_with (go_at_call 80; refine (CN.out (pairsTo 33 61 L2 ys ys.length ++ ([125] ++ Lib.itoa v)) [58] k _ FK.out ?_ ?_ ?_).mono ?_; exact Bd.below D6.out (Below.drew (Below.refl _ _)); exact Below.drew B6.out; exact LB6.out; rintro e w7 ⟨rfl, d', b', k'⟩; have D7 : Hid (Bd T B b ((pairsTo 33 61 L2 ys ys.length ++ ([125] ++ Lib.itoa v)) ++ ([58] ++ Lib.itoa k)) w7) := d'; have B7 : Hid (Below B w w7) := (Below.drew B6.out).trans b'; have K7 : Hid (Lib.OthersKept 5 (some b) w w7) := (Lib.OthersKept.drew K6.out).trans k'; clear d' b' k')
          go_wp2
          go_end0
          exact ⟨rfl, by rw [← EF.out]; exact D7.out, B7.out, K7.out⟩
end Go.Proofs.YtokbakphfodabaaDoor.Own
