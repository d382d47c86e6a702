/-
  Own texts, bundled: VoteMem, MarkR, MarkBR, MarkP, MarkBP, MarkVote, Flat, CopyB, EntCopy, InsOkS, ExecOkS, RunMath.
-/
import Derived.Test.YtfifiobcmdmefaaPk1
import Derived.Deep.Cut
import Derived.OwnWalk
import Derived.Deep.Upon
import Derived.BigQuiet
import Derived.Deep.QuietTactic
namespace Go.Proofs.Ytfifiobcmdmefaa.Own
open Go.RowKit
set_option linter.unusedVariables false

/-- What an entry says: whether there is none; of whom; which; looked at; put; value; code. -/
structure EB where
  n : Bool
  p : Int
  q : Int
  xs : List P2
  ys : List P2
  v : Int
  k : Int
def e0 : EB := ⟨false, 0, 0, [], [], 0, 0⟩
/-- A vote: its ballot and its entry. -/
abbrev V := Int × EB
/-- A vote in memory: what it says, and where its two lists lie. -/
structure VM where
  bal : Int
  b : EB
  a1 : Option Addr
  c1 : Nat
  a2 : Option Addr
  c2 : Nat
def v0 : VM := ⟨0, e0, none, 0, none, 0⟩
instance : Inhabited VM := ⟨v0⟩
def VM.body (x : VM) : V := (x.bal, x.b)
def VM.cells (x : VM) : Array Value := #[.int .i64 x.bal, .bool x.b.n, .int .i64 x.b.p, .int .i64 x.b.q, .slice x.a1 x.b.xs.length x.c1, .slice x.a2 x.b.ys.length x.c2, .int .i64 x.b.v, .int .i64 x.b.k]
def bodies (vs : List VM) : List V := vs.map VM.body
theorem bodies_len (vs : List VM) : (bodies vs).length = vs.length := by simp [bodies]
theorem bodies_getD (vs : List VM) (i : Nat) : (bodies vs).getD i (0, e0) = (vs.getD i v0).body := by
  unfold bodies
  by_cases h : i < vs.length
  · simp [List.getD, h]
  · simp [List.getD, h, v0, VM.body]
theorem bodies_eq {vs us : List VM} (h : bodies vs = bodies us) : vs.length = us.length ∧ ∀ i, (vs.getD i v0).body = (us.getD i v0).body :=
  ⟨by rw [← bodies_len, h, bodies_len], fun i => by rw [← bodies_getD, h, bodies_getD]⟩
theorem body_eq {x y : VM} (h : x.body = y.body) : x.bal = y.bal ∧ x.b = y.b := by
  unfold VM.body at h
  injection h with h1 h2
  exact ⟨h1, h2⟩

/-- A vote's eight cells, and its two lists. -/
def VC (w : World) (b o : Nat) (x : VM) : Prop :=
  (w.cell? ⟨b, o, none⟩ = some (.int .i64 x.bal) ∧ w.cell? ⟨b, o + 1, none⟩ = some (.bool x.b.n) ∧ w.cell? ⟨b, o + 2, none⟩ = some (.int .i64 x.b.p) ∧ w.cell? ⟨b, o + 3, none⟩ = some (.int .i64 x.b.q) ∧ w.cell? ⟨b, o + 4, none⟩ = some (.slice x.a1 x.b.xs.length x.c1) ∧ w.cell? ⟨b, o + 5, none⟩ = some (.slice x.a2 x.b.ys.length x.c2) ∧ w.cell? ⟨b, o + 6, none⟩ = some (.int .i64 x.b.v) ∧ w.cell? ⟨b, o + 7, none⟩ = some (.int .i64 x.b.k)) ∧ Sl w x.a1 x.b.xs ∧ Sl w x.a2 x.b.ys
theorem VC.below {w w' : World} {b o : Nat} {x : VM} (h : VC w b o x) (hlt : b < w.heap.size) (hb : Below w.heap.size w w') : VC w' b o x := by
  obtain ⟨h1, h2, h3⟩ := h
  have e := fun o => hb.cell (p := ⟨b, o, none⟩) hlt
  exact ⟨by rw [e, e, e, e, e, e, e, e]; exact h1, h2.below hb, h3.below hb⟩
/-- Votes in memory, one behind the other. -/
def VAt (w : World) (b off : Nat) (vs : List VM) : Prop := b < w.heap.size ∧ ∀ i, i < vs.length → VC w b (off + i * 8) (vs.getD i v0)
theorem VAt.below {w w' : World} {b off : Nat} {vs : List VM} (h : VAt w b off vs) (hb : Below w.heap.size w w') : VAt w' b off vs :=
  ⟨Nat.lt_of_lt_of_le h.1 hb.size, fun i hi => (h.2 i hi).below h.1 hb⟩
/-- What a slice of votes leads to. -/
def SlV (w : World) (a : Option Addr) (vs : List VM) : Prop := vs = [] ∨ ∃ b off, a = some ⟨b, off, none⟩ ∧ VAt w b off vs
theorem SlV.below {w w' : World} {a : Option Addr} {vs : List VM} (h : SlV w a vs) (hb : Below w.heap.size w w') : SlV w' a vs := by
  rcases h with h | ⟨b, off, rfl, h⟩
  · exact .inl h
  · exact .inr ⟨b, off, rfl, h.below hb⟩
/-- The lists of a vote are of a length that the walks take. -/
def VL (x : VM) : Prop := x.b.xs.length ≤ 2 ^ 40 ∧ x.b.ys.length ≤ 2 ^ 40 ∧ x.b.xs.length ≤ x.c1 ∧ x.b.ys.length ≤ x.c2
def VLs (vs : List VM) : Prop := ∀ i, i < vs.length → VL (vs.getD i v0)
/-- So many boxes the first k votes have looked at and put. -/
def sumV (vs : List VM) : Nat → Nat
  | 0 => 0
  | k + 1 => sumV vs k + ((vs.getD k v0).b.xs.length + (vs.getD k v0).b.ys.length)
theorem sumV_mono (vs : List VM) {i k : Nat} (h : i ≤ k) : sumV vs i ≤ sumV vs k := by
  induction k with
  | zero => obtain rfl : i = 0 := by omega
            exact Nat.le_refl _
  | succ k ih =>
    by_cases e : i = k + 1
    · subst e; exact Nat.le_refl _
    · have := ih (by omega); simp only [sumV]; omega
theorem sumV_at (vs : List VM) {i k : Nat} (h : i < k) : (vs.getD i v0).b.xs.length + (vs.getD i v0).b.ys.length ≤ sumV vs k := by
  have := sumV_mono vs (show i + 1 ≤ k by omega)
  simp only [sumV] at this
  omega

theorem snoc_lt {α : Type} (l : List α) (x d : α) {i : Nat} (h : i < l.length) : (l ++ [x]).getD i d = l.getD i d := by simp [List.getD, List.getElem?_append_left h]
theorem snoc_eq {α : Type} (l : List α) (x d : α) : (l ++ [x]).getD l.length d = x := by simp [List.getD]
theorem snoc_eq' {α : Type} (l : List α) (x d : α) {i : Nat} (h : i = l.length) : (l ++ [x]).getD i d = x := by rw [h]; exact snoc_eq _ _ _

theorem Blk.cells8 {w : World} {b : Nat} {x0 x1 x2 x3 x4 x5 x6 x7 : Value} {t : TypeId} (h : Blk w b #[x0, x1, x2, x3, x4, x5, x6, x7] t) : w.cell? ⟨b, 0, none⟩ = some x0 ∧ w.cell? ⟨b, 1, none⟩ = some x1 ∧ w.cell? ⟨b, 2, none⟩ = some x2 ∧ w.cell? ⟨b, 3, none⟩ = some x3 ∧ w.cell? ⟨b, 4, none⟩ = some x4 ∧ w.cell? ⟨b, 5, none⟩ = some x5 ∧ w.cell? ⟨b, 6, none⟩ = some x6 ∧ w.cell? ⟨b, 7, none⟩ = some x7 :=
  ⟨by rw [h.cell]; rfl, by rw [h.cell]; rfl, by rw [h.cell]; rfl, by rw [h.cell]; rfl, by rw [h.cell]; rfl, by rw [h.cell]; rfl, by rw [h.cell]; rfl, by rw [h.cell]; rfl⟩
/-- A row of n votes of one's own. -/
def RowV (w : World) (b n : Nat) : Prop := ∃ C t, w.heap[b]? = some (.cells C t (0, 0)) ∧ C.size = n * 8 ∧ ∀ v ∈ C, v.oneCell' = true
theorem RowV.setCell {w : World} {b n : Nat} (h : RowV w b n) (o : Nat) (v : Value) (hv : v.oneCell' = true) : RowV (w.setCell ⟨b, o, none⟩ v) b n := by
  obtain ⟨C, t, h1, h2, h3⟩ := h
  refine ⟨C.setIfInBounds o v, t, ?_, by simpa using h2, ?_⟩
  · simp [World.setCell, Array.getElem?_modify, h1]
  · intro u hu
    rcases Array.mem_or_eq_of_mem_setIfInBounds hu with h | h
    · exact h3 u h
    · rw [h]; exact hv
theorem RowV.cell {w : World} {b n : Nat} (h : RowV w b n) (o : Nat) (ho : o < n * 8) : ∃ v, w.cell? ⟨b, o, none⟩ = some v ∧ v.oneCell' = true := by
  obtain ⟨C, t, h1, h2, h3⟩ := h
  rw [cell_heap h1]
  exact ⟨C[o]'(by omega), by simp, h3 _ (by simp)⟩
theorem RowV.frozen {w : World} {b n : Nat} (h : RowV w b n) (o : Nat) : w.frozen? ⟨b, o, none⟩ = false := by
  obtain ⟨C, t, h1, _⟩ := h
  exact frozen_heap h1 o
theorem RowV.lt {w : World} {b n : Nat} (h : RowV w b n) : b < w.heap.size := by
  obtain ⟨C, t, h1, _⟩ := h
  exact (Array.getElem?_eq_some_iff.1 h1).1
theorem RowV.block {w w' : World} {b n : Nat} (h : RowV w b n) (hb : w'.heap[b]? = w.heap[b]?) : RowV w' b n := by
  obtain ⟨C, t, h1, h2⟩ := h
  exact ⟨C, t, by rw [hb]; exact h1, h2⟩
theorem RowV.below {w w' : World} {b n B : Nat} (h : RowV w b n) (hb : Below B w w') (hB : b < B) : RowV w' b n := h.block (hb.block _ hB)

/-- Eight cells of one block, stored one behind the other: what lies there then. -/
def set8 (w : World) (b o : Nat) (x : VM) : World := (((((((w.setCell ⟨b, o, none⟩ (.int .i64 x.bal)).setCell ⟨b, o + 1, none⟩ (.bool x.b.n)).setCell ⟨b, o + 2, none⟩ (.int .i64 x.b.p)).setCell ⟨b, o + 3, none⟩ (.int .i64 x.b.q)).setCell ⟨b, o + 4, none⟩ (.slice x.a1 x.b.xs.length x.c1)).setCell ⟨b, o + 5, none⟩ (.slice x.a2 x.b.ys.length x.c2)).setCell ⟨b, o + 6, none⟩ (.int .i64 x.b.v)).setCell ⟨b, o + 7, none⟩ (.int .i64 x.b.k)
theorem set8_size (w : World) (b o : Nat) (x : VM) : (set8 w b o x).heap.size = w.heap.size := by simp [set8, World.setCell]
theorem set8_turned (w : World) (b o : Nat) (x : VM) : Turned [b] w (set8 w b o x) := by
  have S : ∀ (u : World) (o' : Nat) (v : Value), Turned [b] u (u.setCell ⟨b, o', none⟩ v) := fun u o' v => ⟨rfl, rfl, rfl, by simp [World.setCell], fun k _ hn => Below.heap_setCell _ _ _ _ (by simpa using hn)⟩
  unfold set8
  exact (((((((S _ _ _).trans (S _ _ _)).trans (S _ _ _)).trans (S _ _ _)).trans (S _ _ _)).trans (S _ _ _)).trans (S _ _ _)).trans (S _ _ _)
theorem set8_row {w : World} {b n : Nat} (h : RowV w b n) (o : Nat) (x : VM) : RowV (set8 w b o x) b n := by
  unfold set8
  exact (((((((h.setCell _ _ rfl).setCell _ _ rfl).setCell _ _ rfl).setCell _ _ rfl).setCell _ _ rfl).setCell _ _ rfl).setCell _ _ rfl).setCell _ _ rfl
theorem set8_below {w a : World} {B b : Nat} (h : Below B a w) (hB : B ≤ b) (o : Nat) (x : VM) : Below B a (set8 w b o x) := by
  unfold set8
  exact (((((((h.setCell hB _).setCell hB _).setCell hB _).setCell hB _).setCell hB _).setCell hB _).setCell hB _).setCell hB _
theorem set8_cells {w : World} {b n : Nat} (h : RowV w b n) (i : Nat) (hi : i < n) (x : VM) :
    ((set8 w b (i * 8) x).cell? ⟨b, i * 8, none⟩ = some (.int .i64 x.bal) ∧ (set8 w b (i * 8) x).cell? ⟨b, i * 8 + 1, none⟩ = some (.bool x.b.n) ∧ (set8 w b (i * 8) x).cell? ⟨b, i * 8 + 2, none⟩ = some (.int .i64 x.b.p) ∧ (set8 w b (i * 8) x).cell? ⟨b, i * 8 + 3, none⟩ = some (.int .i64 x.b.q) ∧ (set8 w b (i * 8) x).cell? ⟨b, i * 8 + 4, none⟩ = some (.slice x.a1 x.b.xs.length x.c1) ∧ (set8 w b (i * 8) x).cell? ⟨b, i * 8 + 5, none⟩ = some (.slice x.a2 x.b.ys.length x.c2) ∧ (set8 w b (i * 8) x).cell? ⟨b, i * 8 + 6, none⟩ = some (.int .i64 x.b.v) ∧ (set8 w b (i * 8) x).cell? ⟨b, i * 8 + 7, none⟩ = some (.int .i64 x.b.k)) ∧ ∀ o, (o < i * 8 ∨ i * 8 + 8 ≤ o) → (set8 w b (i * 8) x).cell? ⟨b, o, none⟩ = w.cell? ⟨b, o, none⟩ := by
  obtain ⟨C, t, h1, h2, h3⟩ := h
  have hs : ∀ (u : World) (D : Array Value) (o : Nat) (v : Value), u.heap[b]? = some (.cells D t (0, 0)) → (u.setCell ⟨b, o, none⟩ v).heap[b]? = some (.cells (D.setIfInBounds o v) t (0, 0)) := fun u D o v h => by simp [World.setCell, Array.getElem?_modify, h]
  have H := hs _ _ (i * 8 + 7) (.int .i64 x.b.k) (hs _ _ (i * 8 + 6) (.int .i64 x.b.v) (hs _ _ (i * 8 + 5) (.slice x.a2 x.b.ys.length x.c2) (hs _ _ (i * 8 + 4) (.slice x.a1 x.b.xs.length x.c1) (hs _ _ (i * 8 + 3) (.int .i64 x.b.q) (hs _ _ (i * 8 + 2) (.int .i64 x.b.p) (hs _ _ (i * 8 + 1) (.bool x.b.n) (hs _ _ (i * 8) (.int .i64 x.bal) h1)))))))
  have H' : (set8 w b (i * 8) x).heap[b]? = _ := H
  clear H hs
  have sz : i * 8 + 7 < C.size := by omega
  have K : ∀ o, (set8 w b (i * 8) x).cell? ⟨b, o, none⟩ = _ := fun o => cell_heap H' o
  have K0 : ∀ o, w.cell? ⟨b, o, none⟩ = _ := fun o => cell_heap h1 o
  clear H'
  refine ⟨⟨?_, ?_, ?_, ?_, ?_, ?_, ?_, ?_⟩, fun o ho => ?_⟩
  all_goals rw [K]
  case refine_9 => rw [K0]; simp only [Array.getElem?_setIfInBounds]; repeat (rw [if_neg (by omega)])
  all_goals
    simp only [Array.getElem?_setIfInBounds, Array.size_setIfInBounds]
    repeat (rw [if_neg (by omega)])
    rw [if_pos trivial, if_pos (by omega)]

/-- Where a copied vote lies. -/
def vmOf (g : Nat × Nat) (x : V) : VM := ⟨x.1, x.2, some ⟨g.1, 0, none⟩, x.2.xs.length, some ⟨g.2, 0, none⟩, x.2.ys.length⟩
theorem vmOf_body (g : Nat × Nat) (x : V) : (vmOf g x).body = x := rfl
/-- Votes in memory of their own: the list in block b, the lists of vote i in the blocks gs i. -/
structure CopyV (w : World) (b : Nat) (gs : List (Nat × Nat)) (bs : List V) : Prop where
  len : gs.length = bs.length
  lt : b < w.heap.size
  cell : ∀ i, i < bs.length → VC w b (i * 8) (vmOf (gs.getD i (0, 0)) (bs.getD i (0, e0)))
  own : ∀ i, i < bs.length → RunOwn w (b + 1) (gs.getD i (0, 0)).1 (gs.getD i (0, 0)).2 (bs.getD i (0, e0)).2.xs (bs.getD i (0, e0)).2.ys
  asc : ∀ i j, i < j → j < bs.length → ∀ g, g = (gs.getD i (0, 0)).1 ∨ g = (gs.getD i (0, 0)).2 → g < (gs.getD j (0, 0)).1 ∧ g < (gs.getD j (0, 0)).2
theorem CopyV.below {w w' : World} {b : Nat} {gs : List (Nat × Nat)} {bs : List V} (h : CopyV w b gs bs) (hb : Below w.heap.size w w') : CopyV w' b gs bs :=
  ⟨h.len, Nat.lt_of_lt_of_le h.lt hb.size, fun i hi => (h.cell i hi).below h.lt hb, fun i hi => (h.own i hi).below hb, h.asc⟩
theorem CopyV.nil {w : World} {b : Nat} (h : b < w.heap.size) : CopyV w b [] [] :=
  ⟨rfl, h, fun i hi => by simp at hi, fun i hi => by simp at hi, fun i j _ hj => by simp at hj⟩
def vmsOf (gs : List (Nat × Nat)) (bs : List V) : List VM := (List.range bs.length).map fun i => vmOf (gs.getD i (0, 0)) (bs.getD i (0, e0))
theorem vmsOf_len (gs : List (Nat × Nat)) (bs : List V) : (vmsOf gs bs).length = bs.length := by simp [vmsOf]
theorem vmsOf_at (gs : List (Nat × Nat)) (bs : List V) {i : Nat} (hi : i < bs.length) : (vmsOf gs bs).getD i v0 = vmOf (gs.getD i (0, 0)) (bs.getD i (0, e0)) := by simp [vmsOf, List.getD, hi]
theorem vmsOf_bodies (gs : List (Nat × Nat)) (bs : List V) : bodies (vmsOf gs bs) = bs := by
  unfold bodies vmsOf
  rw [List.map_map]
  apply List.ext_getElem
  · simp
  · intro i h1 h2
    simp at h1
    simp [List.getD, h1, vmOf, VM.body]
theorem CopyV.sl {w : World} {b : Nat} {gs : List (Nat × Nat)} {bs : List V} (h : CopyV w b gs bs) : SlV w (some ⟨b, 0, none⟩) (vmsOf gs bs) :=
  .inr ⟨b, 0, rfl, h.lt, fun i hi => by
    rw [vmsOf_len] at hi
    rw [vmsOf_at gs bs hi, Nat.zero_add]
    exact h.cell i hi⟩
theorem CopyV.vls {gs : List (Nat × Nat)} {bs : List V} (h : ∀ i, i < bs.length → (bs.getD i (0, e0)).2.xs.length ≤ 2 ^ 40 ∧ (bs.getD i (0, e0)).2.ys.length ≤ 2 ^ 40) : VLs (vmsOf gs bs) := fun i hi => by
  rw [vmsOf_len] at hi
  rw [vmsOf_at gs bs hi]
  exact ⟨(h i hi).1, (h i hi).2, Nat.le_refl _, Nat.le_refl _⟩

theorem Sl.turnedN {L : List Nat} {w w' : World} {a : Option Addr} {xs : List P2} (h : Sl w a xs) (ht : Turned L w w') (hL : xs = [] ∨ ∀ x, a = some x → x.block ∉ L) : Sl w' a xs := by
  rcases h with h | ⟨b, off, rfl, h⟩
  · exact .inl h
  rcases hL with h' | hL
  · exact .inl h'
  · exact .inr ⟨b, off, rfl, h.block ht.size (ht.block b h.1 (hL _ rfl))⟩
theorem RunOwn.turnedN {L : List Nat} {w w' : World} {B g1 g2 : Nat} {xs ys : List P2} (h : RunOwn w B g1 g2 xs ys) (ht : Turned L w w') (h1 : g1 ∉ L) (h2 : g2 ∉ L) : RunOwn w' B g1 g2 xs ys := by
  obtain ⟨o1, o2, o3, o4, o5, o6, o7⟩ := h
  have e1 := ht.block g1 o4.1 h1
  have e2 := ht.block g2 o5.1 h2
  exact ⟨o1, o2, o3, o4.block ht.size e1, o5.block ht.size e2, o6.block e1, o7.block e2⟩

/-- One vote more has been copied. -/
theorem CopyV.snoc {w w1 : World} {b n g1 g2 : Nat} {gs : List (Nat × Nat)} {bs : List V} {x : V} (h : CopyV w b gs bs) (hb : Below w.heap.size w w1) (ho : RunOwn w1 w.heap.size g1 g2 x.2.xs x.2.ys) (hr : RowV w1 b n) (hn : bs.length < n) :
    CopyV (set8 w1 b (bs.length * 8) (vmOf (g1, g2) x)) b (gs ++ [(g1, g2)]) (bs ++ [x]) := by
  have h1 := h.below hb
  have hl := h.len
  have h0 := h.lt
  have T := set8_turned w1 b (bs.length * 8) (vmOf (g1, g2) x)
  have P := set8_cells hr bs.length hn (vmOf (g1, g2) x)
  have elim : ∀ i, i < (bs ++ [x]).length → i < bs.length ∨ i = bs.length := fun i hi => by simp at hi; omega
  have n1 : g1 ∉ [b] := by have := ho.1; simp only [List.mem_singleton]; omega
  have n2 : g2 ∉ [b] := by have := ho.2.1; simp only [List.mem_singleton]; omega
  have OX := ho.turnedN T n1 n2
  have lo : ∀ i, i < bs.length → (gs.getD i (0, 0)).1 ∉ [b] ∧ (gs.getD i (0, 0)).2 ∉ [b] := fun i hi => by
    have := (h.own i hi).1
    have := (h.own i hi).2.1
    constructor <;> simp only [List.mem_singleton] <;> omega
  refine ⟨by simp [hl], by rw [set8_size]; exact h1.lt, fun i hi => ?_, fun i hi => ?_, fun i j hij hj => ?_⟩
  · rcases elim i hi with h' | h'
    · rw [snoc_lt _ _ _ h', snoc_lt _ _ _ (by omega)]
      obtain ⟨c, s1, s2⟩ := h1.cell i h'
      have e := fun o (ho : o < bs.length * 8) => P.2 o (.inl ho)
      refine ⟨?_, s1.turnedN T (.inr fun y hy => ?_), s2.turnedN T (.inr fun y hy => ?_)⟩
      · rw [e _ (by omega), e _ (by omega), e _ (by omega), e _ (by omega), e _ (by omega), e _ (by omega), e _ (by omega), e _ (by omega)]; exact c
      · simp only [vmOf, Option.some.injEq] at hy; rw [← hy]; exact (lo i h').1
      · simp only [vmOf, Option.some.injEq] at hy; rw [← hy]; exact (lo i h').2
    · subst h'
      rw [snoc_eq, snoc_eq' gs _ _ hl.symm]
      exact ⟨P.1, .inr ⟨_, _, rfl, OX.2.2.2.1⟩, .inr ⟨_, _, rfl, OX.2.2.2.2.1⟩⟩
  · rcases elim i hi with h' | h'
    · rw [snoc_lt _ _ _ h', snoc_lt _ _ _ (by omega)]
      exact (h1.own i h').turnedN T (lo i h').1 (lo i h').2
    · subst h'
      rw [snoc_eq, snoc_eq' gs _ _ hl.symm]
      exact ⟨by have := OX.1; show b + 1 ≤ g1; omega, by have := OX.2.1; show b + 1 ≤ g2; omega, OX.2.2⟩
  · rcases elim j hj with h' | h'
    · rw [snoc_lt _ _ _ (by omega), snoc_lt _ _ _ (by omega)]; exact h.asc i j hij h'
    · subst h'
      rw [snoc_lt _ _ _ (by omega), snoc_eq' gs _ _ hl.symm]
      have a1 := (h.own i hij).2.2.2.1.1
      have a2 := (h.own i hij).2.2.2.2.1.1
      have := ho.1
      have := ho.2.1
      intro g hg
      rcases hg with rfl | rfl
      · exact ⟨by show _ < g1; omega, by show _ < g2; omega⟩
      · exact ⟨by show _ < g1; omega, by show _ < g2; omega⟩
end Go.Proofs.Ytfifiobcmdmefaa.Own

namespace Go.Proofs.Ytfifiobcmdmefaa.Own
open Go.RowKit

set_option maxHeartbeats 1000000 in
theorem markReadS (b off n c : Nat) (k : Int) (w : World) (hn : n ≤ 2 ^ 40) (hk0 : 0 ≤ k) (hk : k ≤ 2 ^ 40) (hfr : ∀ o, w.frozen? ⟨b, o, none⟩ = false) (hcell : ∀ i, i < 2 * n → ∃ v, w.cell? ⟨b, off + i, none⟩ = some v ∧ v.oneCell' = true) (hb : b < w.heap.size) :
    Calls Try.prog 91 #[.slice (some ⟨b, off, none⟩) n c, .int .i64 k] w fun e w' => e = .returned (.int .i64 (k + 2 * n)) ∧ BoxAt w' b off (marks k n) ∧ Only b w w' := by
  have HC : Hid (∀ i, i < 2 * n → ∃ v, w.cell? ⟨b, off + i, none⟩ = some v ∧ v.oneCell' = true) := hcell
  have HF : Hid (∀ o, w.frozen? ⟨b, o, none⟩ = false) := hfr
  clear hcell hfr
  go_enter Try.func91, Try.ntmps91
  go_wp2
  go_loopw [1, 5] (fun q i wr => ∃ j : Nat, j ≤ n ∧ i = .int .i64 j ∧ q = .int .i64 (k + 2 * j) ∧ BoxAt wr b off (marks k j) ∧ (∀ i, 2 * j ≤ i → wr.cell? ⟨b, off + i, none⟩ = w.cell? ⟨b, off + i, none⟩) ∧ Only b w wr) (fun _ i _ => n - (intOf i).toNat)
  case atStart => exact ⟨0, Nat.zero_le _, rfl, by simp, ⟨hb, by simp [marks]⟩, fun _ _ => rfl, Only.refl _ _⟩
  case round =>
    obtain ⟨j, hj, rfl, rfl, hat, hrest, ho⟩ := hrel
    by_cases hlt : j < n
    · obtain ⟨v1, hv1, hv1'⟩ := HC.out (2 * j) (by omega)
      obtain ⟨v2, hv2, hv2'⟩ := HC.out (2 * j + 1) (by omega)
      have c1 : wr.cell? ⟨b, off + j * 2, none⟩ = some v1 := by rw [show off + j * 2 = off + 2 * j by omega, hrest _ (by omega)]; exact hv1
      have c2 : wr.cell? ⟨b, off + j * 2 + 1, none⟩ = some v2 := by rw [show off + j * 2 + 1 = off + (2 * j + 1) by omega, hrest _ (by omega)]; exact hv2
      have f1 : wr.frozen? ⟨b, off + j * 2, none⟩ = false := by rw [ho.frozen]; exact HF.out _
      have f2 : wr.frozen? ⟨b, off + j * 2 + 1, none⟩ = false := by rw [ho.frozen]; exact HF.out _
      have Hrest := hrest
      have HR : Hid (∀ i, 2 * j ≤ i → wr.cell? ⟨b, off + i, none⟩ = w.cell? ⟨b, off + i, none⟩) := Hrest
      have HA : Hid (BoxAt wr b off (marks k j)) := hat
      clear hrest Hrest hat hv1 hv2
      go_wp2
      go_roundw
      case rel =>
        refine ⟨j + 1, by omega, by go_num, ?_, ?_, ?_, (ho.setCell _).setCell _⟩
        · go_num
        · refine ⟨by simpa [World.setCell] using HA.out.1, fun i hi => ?_⟩
          rw [marks_length] at hi
          rw [marks_getD _ _ _ hi]
          by_cases e : i = j
          · subst e
            exact ⟨by rw [setCell_cell_other _ _ _ _ _ (by omega)]; exact setCell_cell_same _ _ _ _ _ c1, setCell_cell_same _ _ _ _ v2 (by rw [setCell_cell_other _ _ _ _ _ (by omega)]; exact c2)⟩
          · have := HA.out.2 i (by rw [marks_length]; omega)
            rw [marks_getD _ _ _ (by omega)] at this
            rw [setCell_cell_other _ _ _ _ _ (by omega), setCell_cell_other _ _ _ _ _ (by omega), setCell_cell_other _ _ _ _ _ (by omega), setCell_cell_other _ _ _ _ _ (by omega)]
            exact this
        · intro i hi
          rw [setCell_cell_other _ _ _ _ _ (by omega), setCell_cell_other _ _ _ _ _ (by omega)]
          exact HR.out i (by omega)
      case measure => simp [intOf]; omega
    · go_wp2
      go_ret
      have : j = n := by omega
      subst this
      exact ⟨rfl, hat, ho⟩

set_option maxHeartbeats 1000000 in
theorem heldReadS (b off n c : Nat) (k : Int) (w : World) (hn : n ≤ 2 ^ 40) (hk0 : 0 ≤ k) (hk : k ≤ 2 ^ 40) (hat : BoxAt w b off (marks k n)) :
    Calls Try.prog 93 #[.slice (some ⟨b, off, none⟩) n c, .int .i64 k] w fun e w' => e = .returned (.int .i64 (k + 2 * n)) ∧ w' = w := by
  have HA : Hid (BoxAt w b off (marks k n)) := hat
  clear hat
  go_enter Try.func93, Try.ntmps93
  go_wp2
  go_loop [1, 5] (fun q i => ∃ j : Nat, j ≤ n ∧ i = .int .i64 j ∧ q = .int .i64 (k + 2 * j)) (fun _ i => n - (intOf i).toNat)
  case atStart => exact ⟨0, Nat.zero_le _, rfl, by simp⟩
  case round =>
    obtain ⟨j, hj, rfl, rfl⟩ := hrel
    by_cases hlt : j < n
    · obtain ⟨c1, c2⟩ := HA.out.2 j (by rw [marks_length]; exact hlt)
      rw [marks_getD _ _ _ hlt] at c1 c2
      go_wp2
      go_round
      case rel => exact ⟨j + 1, by omega, by go_num, by go_num⟩
      case measure => simp [intOf]; omega
    · go_wp2
      go_ret
      have : j = n := by omega
      subst this
      exact ⟨rfl, rfl⟩
end Go.Proofs.Ytfifiobcmdmefaa.Own

namespace Go.Proofs.Ytfifiobcmdmefaa.Own
open Go.RowKit
set_option linter.unusedVariables false

set_option maxHeartbeats 1000000 in
theorem markReadS0 (a : Option Addr) (c : Nat) (k : Int) (w : World) :
    Calls Try.prog 91 #[.slice a 0 c, .int .i64 k] w fun e w' => e = .returned (.int .i64 k) ∧ w' = w := by
  go_enter Try.func91, Try.ntmps91
  go_wp2
  go_loop [1, 5] (fun q i => i = .int .i64 0 ∧ q = .int .i64 k) (fun _ _ => 0)
  case atStart => exact ⟨rfl, rfl⟩
  case round =>
    obtain ⟨rfl, rfl⟩ := hrel
    go_wp2
    go_ret
    exact ⟨rfl, rfl⟩
set_option maxHeartbeats 1000000 in
theorem heldReadS0 (a : Option Addr) (c : Nat) (k : Int) (w : World) :
    Calls Try.prog 93 #[.slice a 0 c, .int .i64 k] w fun e w' => e = .returned (.int .i64 k) ∧ w' = w := by
  go_enter Try.func93, Try.ntmps93
  go_wp2
  go_loop [1, 5] (fun q i => i = .int .i64 0 ∧ q = .int .i64 k) (fun _ _ => 0)
  case atStart => exact ⟨rfl, rfl⟩
  case round =>
    obtain ⟨rfl, rfl⟩ := hrel
    go_wp2
    go_ret
    exact ⟨rfl, rfl⟩

theorem markReadB (a : Option Addr) (c n B : Nat) (xs : List (Int × Int)) (k : Int) (w : World) (h : OwnB w B a xs) (hl : xs.length = n) (hn : n ≤ 2 ^ 40) (hk0 : 0 ≤ k) (hk : k ≤ 2 ^ 40) :
    Calls Try.prog 91 #[.slice a n c, .int .i64 k] w fun e w' => e = .returned (.int .i64 (k + 2 * n)) ∧ OwnB w' B a (marks k n) ∧ OnlyB a xs w w' := by
  subst hl
  rcases h with h | ⟨g, rfl, hB, h, hf⟩
  · subst h
    refine (markReadS0 a c k w).mono ?_
    rintro e w' ⟨rfl, rfl⟩
    exact ⟨by simp, .inl rfl, .inl ⟨rfl, rfl⟩⟩
  · by_cases h0 : xs = []
    · subst h0
      refine (markReadS0 _ c k w).mono ?_
      rintro e w' ⟨rfl, rfl⟩
      exact ⟨by simp, .inl rfl, .inl ⟨rfl, rfl⟩⟩
    refine (markReadS g 0 xs.length c k w hn hk0 hk hf ?_ h.1).mono ?_
    · intro i hi
      have := h.2 (i / 2) (by omega)
      rcases Nat.mod_two_eq_zero_or_one i with m | m
      · exact ⟨_, by rw [show 0 + i = 0 + i / 2 * 2 by omega]; exact this.1, rfl⟩
      · exact ⟨_, by rw [show 0 + i = 0 + i / 2 * 2 + 1 by omega]; exact this.2, rfl⟩
    · rintro e w' ⟨rfl, hm, ho⟩
      exact ⟨rfl, .inr ⟨g, rfl, hB, hm, fun o => by rw [ho.frozen]; exact hf o⟩, .inr ⟨g, h0, rfl, ho⟩⟩
theorem heldReadB (a : Option Addr) (c n B : Nat) (k : Int) (w : World) (h : OwnB w B a (marks k n)) (hn : n ≤ 2 ^ 40) (hk0 : 0 ≤ k) (hk : k ≤ 2 ^ 40) :
    Calls Try.prog 93 #[.slice a n c, .int .i64 k] w fun e w' => e = .returned (.int .i64 (k + 2 * n)) ∧ w' = w := by
  by_cases h0 : n = 0
  · subst h0
    refine (heldReadS0 a c k w).mono ?_
    rintro e w' ⟨rfl, rfl⟩
    exact ⟨by simp, rfl⟩
  rcases h with h | ⟨g, rfl, hB, h, hf⟩
  · have := marks_length k n
    rw [h] at this
    simp at this
    omega
  · exact heldReadS g 0 n c k w hn hk0 hk h
end Go.Proofs.Ytfifiobcmdmefaa.Own

namespace Go.Proofs.Ytfifiobcmdmefaa.Own
open Go.RowKit

set_option maxHeartbeats 1000000 in
theorem markPutS (b off n c : Nat) (k : Int) (w : World) (hn : n ≤ 2 ^ 40) (hk0 : 0 ≤ k) (hk : k ≤ 2 ^ 40) (hfr : ∀ o, w.frozen? ⟨b, o, none⟩ = false) (hcell : ∀ i, i < 2 * n → ∃ v, w.cell? ⟨b, off + i, none⟩ = some v ∧ v.oneCell' = true) (hb : b < w.heap.size) :
    Calls Try.prog 92 #[.slice (some ⟨b, off, none⟩) n c, .int .i64 k] w fun e w' => e = .returned (.int .i64 (k + 2 * n)) ∧ BoxAt w' b off (marks k n) ∧ Only b w w' := by
  have HC : Hid (∀ i, i < 2 * n → ∃ v, w.cell? ⟨b, off + i, none⟩ = some v ∧ v.oneCell' = true) := hcell
  have HF : Hid (∀ o, w.frozen? ⟨b, o, none⟩ = false) := hfr
  clear hcell hfr
  go_enter Try.func92, Try.ntmps92
  go_wp2
  go_loopw [1, 5] (fun q i wr => ∃ j : Nat, j ≤ n ∧ i = .int .i64 j ∧ q = .int .i64 (k + 2 * j) ∧ BoxAt wr b off (marks k j) ∧ (∀ i, 2 * j ≤ i → wr.cell? ⟨b, off + i, none⟩ = w.cell? ⟨b, off + i, none⟩) ∧ Only b w wr) (fun _ i _ => n - (intOf i).toNat)
  case atStart => exact ⟨0, Nat.zero_le _, rfl, by simp, ⟨hb, by simp [marks]⟩, fun _ _ => rfl, Only.refl _ _⟩
  case round =>
    obtain ⟨j, hj, rfl, rfl, hat, hrest, ho⟩ := hrel
    by_cases hlt : j < n
    · obtain ⟨v1, hv1, hv1'⟩ := HC.out (2 * j) (by omega)
      obtain ⟨v2, hv2, hv2'⟩ := HC.out (2 * j + 1) (by omega)
      have c1 : wr.cell? ⟨b, off + j * 2, none⟩ = some v1 := by rw [show off + j * 2 = off + 2 * j by omega, hrest _ (by omega)]; exact hv1
      have c2 : wr.cell? ⟨b, off + j * 2 + 1, none⟩ = some v2 := by rw [show off + j * 2 + 1 = off + (2 * j + 1) by omega, hrest _ (by omega)]; exact hv2
      have f1 : wr.frozen? ⟨b, off + j * 2, none⟩ = false := by rw [ho.frozen]; exact HF.out _
      have f2 : wr.frozen? ⟨b, off + j * 2 + 1, none⟩ = false := by rw [ho.frozen]; exact HF.out _
      have Hrest := hrest
      have HR : Hid (∀ i, 2 * j ≤ i → wr.cell? ⟨b, off + i, none⟩ = w.cell? ⟨b, off + i, none⟩) := Hrest
      have HA : Hid (BoxAt wr b off (marks k j)) := hat
      clear hrest Hrest hat hv1 hv2
      go_wp2
      go_roundw
      case rel =>
        refine ⟨j + 1, by omega, by go_num, ?_, ?_, ?_, (ho.setCell _).setCell _⟩
        · go_num
        · refine ⟨by simpa [World.setCell] using HA.out.1, fun i hi => ?_⟩
          rw [marks_length] at hi
          rw [marks_getD _ _ _ hi]
          by_cases e : i = j
          · subst e
            exact ⟨by rw [setCell_cell_other _ _ _ _ _ (by omega)]; exact setCell_cell_same _ _ _ _ _ c1, setCell_cell_same _ _ _ _ v2 (by rw [setCell_cell_other _ _ _ _ _ (by omega)]; exact c2)⟩
          · have := HA.out.2 i (by rw [marks_length]; omega)
            rw [marks_getD _ _ _ (by omega)] at this
            rw [setCell_cell_other _ _ _ _ _ (by omega), setCell_cell_other _ _ _ _ _ (by omega), setCell_cell_other _ _ _ _ _ (by omega), setCell_cell_other _ _ _ _ _ (by omega)]
            exact this
        · intro i hi
          rw [setCell_cell_other _ _ _ _ _ (by omega), setCell_cell_other _ _ _ _ _ (by omega)]
          exact HR.out i (by omega)
      case measure => simp [intOf]; omega
    · go_wp2
      go_ret
      have : j = n := by omega
      subst this
      exact ⟨rfl, hat, ho⟩

set_option maxHeartbeats 1000000 in
theorem heldPutS (b off n c : Nat) (k : Int) (w : World) (hn : n ≤ 2 ^ 40) (hk0 : 0 ≤ k) (hk : k ≤ 2 ^ 40) (hat : BoxAt w b off (marks k n)) :
    Calls Try.prog 94 #[.slice (some ⟨b, off, none⟩) n c, .int .i64 k] w fun e w' => e = .returned (.int .i64 (k + 2 * n)) ∧ w' = w := by
  have HA : Hid (BoxAt w b off (marks k n)) := hat
  clear hat
  go_enter Try.func94, Try.ntmps94
  go_wp2
  go_loop [1, 5] (fun q i => ∃ j : Nat, j ≤ n ∧ i = .int .i64 j ∧ q = .int .i64 (k + 2 * j)) (fun _ i => n - (intOf i).toNat)
  case atStart => exact ⟨0, Nat.zero_le _, rfl, by simp⟩
  case round =>
    obtain ⟨j, hj, rfl, rfl⟩ := hrel
    by_cases hlt : j < n
    · obtain ⟨c1, c2⟩ := HA.out.2 j (by rw [marks_length]; exact hlt)
      rw [marks_getD _ _ _ hlt] at c1 c2
      go_wp2
      go_round
      case rel => exact ⟨j + 1, by omega, by go_num, by go_num⟩
      case measure => simp [intOf]; omega
    · go_wp2
      go_ret
      have : j = n := by omega
      subst this
      exact ⟨rfl, rfl⟩
end Go.Proofs.Ytfifiobcmdmefaa.Own

namespace Go.Proofs.Ytfifiobcmdmefaa.Own
open Go.RowKit
set_option linter.unusedVariables false

set_option maxHeartbeats 1000000 in
theorem markPutS0 (a : Option Addr) (c : Nat) (k : Int) (w : World) :
    Calls Try.prog 92 #[.slice a 0 c, .int .i64 k] w fun e w' => e = .returned (.int .i64 k) ∧ w' = w := by
  go_enter Try.func92, Try.ntmps92
  go_wp2
  go_loop [1, 5] (fun q i => i = .int .i64 0 ∧ q = .int .i64 k) (fun _ _ => 0)
  case atStart => exact ⟨rfl, rfl⟩
  case round =>
    obtain ⟨rfl, rfl⟩ := hrel
    go_wp2
    go_ret
    exact ⟨rfl, rfl⟩
set_option maxHeartbeats 1000000 in
theorem heldPutS0 (a : Option Addr) (c : Nat) (k : Int) (w : World) :
    Calls Try.prog 94 #[.slice a 0 c, .int .i64 k] w fun e w' => e = .returned (.int .i64 k) ∧ w' = w := by
  go_enter Try.func94, Try.ntmps94
  go_wp2
  go_loop [1, 5] (fun q i => i = .int .i64 0 ∧ q = .int .i64 k) (fun _ _ => 0)
  case atStart => exact ⟨rfl, rfl⟩
  case round =>
    obtain ⟨rfl, rfl⟩ := hrel
    go_wp2
    go_ret
    exact ⟨rfl, rfl⟩

theorem markPutB (a : Option Addr) (c n B : Nat) (xs : List (Int × Int)) (k : Int) (w : World) (h : OwnB w B a xs) (hl : xs.length = n) (hn : n ≤ 2 ^ 40) (hk0 : 0 ≤ k) (hk : k ≤ 2 ^ 40) :
    Calls Try.prog 92 #[.slice a n c, .int .i64 k] w fun e w' => e = .returned (.int .i64 (k + 2 * n)) ∧ OwnB w' B a (marks k n) ∧ OnlyB a xs w w' := by
  subst hl
  rcases h with h | ⟨g, rfl, hB, h, hf⟩
  · subst h
    refine (markPutS0 a c k w).mono ?_
    rintro e w' ⟨rfl, rfl⟩
    exact ⟨by simp, .inl rfl, .inl ⟨rfl, rfl⟩⟩
  · by_cases h0 : xs = []
    · subst h0
      refine (markPutS0 _ c k w).mono ?_
      rintro e w' ⟨rfl, rfl⟩
      exact ⟨by simp, .inl rfl, .inl ⟨rfl, rfl⟩⟩
    refine (markPutS g 0 xs.length c k w hn hk0 hk hf ?_ h.1).mono ?_
    · intro i hi
      have := h.2 (i / 2) (by omega)
      rcases Nat.mod_two_eq_zero_or_one i with m | m
      · exact ⟨_, by rw [show 0 + i = 0 + i / 2 * 2 by omega]; exact this.1, rfl⟩
      · exact ⟨_, by rw [show 0 + i = 0 + i / 2 * 2 + 1 by omega]; exact this.2, rfl⟩
    · rintro e w' ⟨rfl, hm, ho⟩
      exact ⟨rfl, .inr ⟨g, rfl, hB, hm, fun o => by rw [ho.frozen]; exact hf o⟩, .inr ⟨g, h0, rfl, ho⟩⟩
theorem heldPutB (a : Option Addr) (c n B : Nat) (k : Int) (w : World) (h : OwnB w B a (marks k n)) (hn : n ≤ 2 ^ 40) (hk0 : 0 ≤ k) (hk : k ≤ 2 ^ 40) :
    Calls Try.prog 94 #[.slice a n c, .int .i64 k] w fun e w' => e = .returned (.int .i64 (k + 2 * n)) ∧ w' = w := by
  by_cases h0 : n = 0
  · subst h0
    refine (heldPutS0 a c k w).mono ?_
    rintro e w' ⟨rfl, rfl⟩
    exact ⟨by simp, rfl⟩
  rcases h with h | ⟨g, rfl, hB, h, hf⟩
  · have := marks_length k n
    rw [h] at this
    simp at this
    omega
  · exact heldPutS g 0 n c k w hn hk0 hk h
end Go.Proofs.Ytfifiobcmdmefaa.Own

namespace Go.Proofs.Ytfifiobcmdmefaa.Own
open Go.RowKit
set_option linter.unusedVariables false
set_option linter.unusedSimpArgs false

/-- A vote's eight cells alone. -/
def C8 (w : World) (b o : Nat) (x : VM) : Prop := w.cell? ⟨b, o, none⟩ = some (.int .i64 x.bal) ∧ w.cell? ⟨b, o + 1, none⟩ = some (.bool x.b.n) ∧ w.cell? ⟨b, o + 2, none⟩ = some (.int .i64 x.b.p) ∧ w.cell? ⟨b, o + 3, none⟩ = some (.int .i64 x.b.q) ∧ w.cell? ⟨b, o + 4, none⟩ = some (.slice x.a1 x.b.xs.length x.c1) ∧ w.cell? ⟨b, o + 5, none⟩ = some (.slice x.a2 x.b.ys.length x.c2) ∧ w.cell? ⟨b, o + 6, none⟩ = some (.int .i64 x.b.v) ∧ w.cell? ⟨b, o + 7, none⟩ = some (.int .i64 x.b.k)
theorem C8.congr {w w' : World} {b o : Nat} {x : VM} (h : C8 w b o x) (e : ∀ i, i < 8 → w'.cell? ⟨b, o + i, none⟩ = w.cell? ⟨b, o + i, none⟩) : C8 w' b o x := by
  obtain ⟨h0, h1, h2, h3, h4, h5, h6, h7⟩ := h
  exact ⟨by have := e 0 (by omega); simpa using this.trans h0, (e 1 (by omega)).trans h1, (e 2 (by omega)).trans h2, (e 3 (by omega)).trans h3, (e 4 (by omega)).trans h4, (e 5 (by omega)).trans h5, (e 6 (by omega)).trans h6, (e 7 (by omega)).trans h7⟩
/-- The block of a list that is not empty. -/
def blkOf (a : Option Addr) (n : Nat) : Option Nat := if n = 0 then none else a.map fun p => p.block
theorem OnlyB.heap {a : Option Addr} {xs : List P2} {w w' : World} (h : OnlyB a xs w w') {b : Nat} (hb : blkOf a xs.length ≠ some b) : w'.heap[b]? = w.heap[b]? := by
  rcases h with ⟨_, rfl⟩ | ⟨g, hne, rfl, h⟩
  · rfl
  · refine h.block b fun e => hb ?_
    have : xs.length ≠ 0 := fun h0 => hne (List.eq_nil_of_length_eq_zero h0)
    simp [blkOf, this, e]
theorem OnlyB.size {a : Option Addr} {xs : List P2} {w w' : World} (h : OnlyB a xs w w') : w'.heap.size = w.heap.size := by
  rcases h with ⟨_, rfl⟩ | ⟨g, hne, rfl, h⟩
  · rfl
  · exact h.size
theorem OwnB.blk {w w' : World} {B : Nat} {a : Option Addr} {xs : List P2} (h : OwnB w B a xs) (hs : w'.heap.size = w.heap.size) (hb : ∀ b, blkOf a xs.length = some b → w'.heap[b]? = w.heap[b]?) : OwnB w' B a xs := by
  rcases h with h | ⟨g, rfl, hB, h, hf⟩
  · exact .inl h
  · by_cases h0 : xs = []
    · exact .inl h0
    · have hl : xs.length ≠ 0 := fun e => h0 (List.eq_nil_of_length_eq_zero e)
      have e := hb g (by simp [blkOf, hl])
      exact .inr ⟨g, rfl, hB, h.block (Nat.le_of_eq hs.symm) e, fun o => by rw [World.frozen?_of_block (w := w) (a := ⟨g, o, none⟩) e]; exact hf o⟩
/-- The blocks of a vote's lists. -/
def blk1 (x : VM) : Option Nat := blkOf x.a1 x.b.xs.length
def blk2 (x : VM) : Option Nat := blkOf x.a2 x.b.ys.length
/-- All lists lie apart, and none in block g. -/
structure Sep (g : Nat) (vs : List VM) : Prop where
  one : ∀ i, i < vs.length → blk1 (vs.getD i v0) ≠ some g ∧ blk2 (vs.getD i v0) ≠ some g
  two : ∀ i, i < vs.length → ∀ b, blk1 (vs.getD i v0) = some b → blk2 (vs.getD i v0) ≠ some b
  all : ∀ i j, i < vs.length → j < vs.length → i ≠ j → ∀ b, (blk1 (vs.getD i v0) = some b ∨ blk2 (vs.getD i v0) = some b) → blk1 (vs.getD j v0) ≠ some b ∧ blk2 (vs.getD j v0) ≠ some b
/-- Votes in memory of one's own, from block B on: the list in block g. -/
structure OwnVs (w : World) (B g : Nat) (vs : List VM) : Prop where
  lt : g < w.heap.size
  lo : B ≤ g
  fr : ∀ o, w.frozen? ⟨g, o, none⟩ = false
  cell : ∀ i, i < vs.length → C8 w g (i * 8) (vs.getD i v0)
  own : ∀ i, i < vs.length → OwnB w B (vs.getD i v0).a1 (vs.getD i v0).b.xs ∧ OwnB w B (vs.getD i v0).a2 (vs.getD i v0).b.ys
theorem OwnVs.at {w : World} {B g : Nat} {vs : List VM} (h : OwnVs w B g vs) : VAt w g 0 vs :=
  ⟨h.lt, fun i hi => ⟨by rw [Nat.zero_add]; exact h.cell i hi, (h.own i hi).1.sl, (h.own i hi).2.sl⟩⟩
/-- How many numbers the marks of a vote take. -/
def stepV (x : VM) : Nat := 6 + 2 * x.b.xs.length + 2 * x.b.ys.length
def stepsV (vs : List VM) : Nat → Nat
  | 0 => 0
  | k + 1 => stepsV vs k + stepV (vs.getD k v0)
/-- A vote, marked from k on. -/
def markedV (k : Int) (x : VM) : VM := { x with bal := k, b := ⟨(k + 1) % 3 == 0, k + 2, k + 3, marks (k + 4) x.b.xs.length, marks (k + 4 + 2 * x.b.xs.length) x.b.ys.length, k + 4 + 2 * x.b.xs.length + 2 * x.b.ys.length, k + 5 + 2 * x.b.xs.length + 2 * x.b.ys.length⟩ }
/-- The first j votes are marked. -/
def mixV (k0 : Int) (vs : List VM) (j : Nat) : List VM := (List.range vs.length).map fun i => if i < j then markedV (k0 + (stepsV vs i : Nat)) (vs.getD i v0) else vs.getD i v0
theorem mixV_len (k0 : Int) (vs : List VM) (j : Nat) : (mixV k0 vs j).length = vs.length := by simp [mixV]
theorem mixV_at (k0 : Int) (vs : List VM) (j : Nat) {i : Nat} (hi : i < vs.length) : (mixV k0 vs j).getD i v0 = if i < j then markedV (k0 + (stepsV vs i : Nat)) (vs.getD i v0) else vs.getD i v0 := by simp [mixV, List.getD, hi]
theorem mixV_zero (k0 : Int) (vs : List VM) : mixV k0 vs 0 = vs := by
  apply List.ext_getElem
  · simp [mixV]
  · intro i h1 h2
    simp [mixV, List.getD, h2]
theorem marked_blk (k : Int) (x : VM) : blk1 (markedV k x) = blk1 x ∧ blk2 (markedV k x) = blk2 x := by
  simp [blk1, blk2, markedV, marks_length]
theorem mix_blk (k0 : Int) (vs : List VM) (j : Nat) {i : Nat} (hi : i < vs.length) : blk1 ((mixV k0 vs j).getD i v0) = blk1 (vs.getD i v0) ∧ blk2 ((mixV k0 vs j).getD i v0) = blk2 (vs.getD i v0) := by
  rw [mixV_at _ _ _ hi]
  split
  · exact marked_blk _ _
  · exact ⟨rfl, rfl⟩
theorem Sep.mix {g : Nat} {vs : List VM} (h : Sep g vs) (k0 : Int) (j : Nat) : Sep g (mixV k0 vs j) := by
  refine ⟨fun i hi => ?_, fun i hi b => ?_, fun i l hi hl hne b => ?_⟩
  · rw [mixV_len] at hi; rw [(mix_blk k0 vs j hi).1, (mix_blk k0 vs j hi).2]; exact h.one i hi
  · rw [mixV_len] at hi; rw [(mix_blk k0 vs j hi).1, (mix_blk k0 vs j hi).2]; exact h.two i hi b
  · rw [mixV_len] at hi hl; rw [(mix_blk k0 vs j hi).1, (mix_blk k0 vs j hi).2, (mix_blk k0 vs j hl).1, (mix_blk k0 vs j hl).2]; exact h.all i l hi hl hne b

/-- A world in which the cells o .. o + 7 of block g alone may have turned, and a vote's lists. -/
structure OneV (g j : Nat) (x : VM) (w w' : World) : Prop where
  size : w'.heap.size = w.heap.size
  os : w'.os = w.os
  tape : w'.tape = w.tape
  output : w'.output = w.output
  block : ∀ b, b ≠ g → blk1 x ≠ some b → blk2 x ≠ some b → w'.heap[b]? = w.heap[b]?
  cells : ∀ o, (o < j * 8 ∨ j * 8 + 7 < o) → w'.cell? ⟨g, o, none⟩ = w.cell? ⟨g, o, none⟩
  fr : ∀ o, w'.frozen? ⟨g, o, none⟩ = w.frozen? ⟨g, o, none⟩
theorem OneV.refl (g j : Nat) (x : VM) (w : World) : OneV g j x w w := ⟨rfl, rfl, rfl, rfl, fun _ _ _ _ => rfl, fun _ _ => rfl, fun _ => rfl⟩
theorem OneV.trans {g j : Nat} {x : VM} {a b c : World} (h : OneV g j x a b) (k : OneV g j x b c) : OneV g j x a c :=
  ⟨k.size.trans h.size, k.os.trans h.os, k.tape.trans h.tape, k.output.trans h.output, fun n h1 h2 h3 => (k.block n h1 h2 h3).trans (h.block n h1 h2 h3), fun o ho => (k.cells o ho).trans (h.cells o ho), fun o => (k.fr o).trans (h.fr o)⟩
theorem OneV.set (g j : Nat) (x : VM) (w : World) (o : Nat) (ho : j * 8 ≤ o ∧ o ≤ j * 8 + 7) (v : Value) : OneV g j x w (w.setCell ⟨g, o, none⟩ v) :=
  ⟨by simp [World.setCell], rfl, rfl, rfl, fun b hb _ _ => Below.heap_setCell _ _ _ _ hb, fun o' h => setCell_cell_other _ _ _ _ _ (by omega), fun o' => by simp⟩
theorem OnlyB.facts {a : Option Addr} {xs : List P2} {w w' : World} (h : OnlyB a xs w w') : w'.os = w.os ∧ w'.tape = w.tape ∧ w'.output = w.output := by
  rcases h with ⟨_, rfl⟩ | ⟨g, hne, rfl, h⟩
  · exact ⟨rfl, rfl, rfl⟩
  · exact ⟨h.os, h.tape, h.output⟩
theorem OneV.of1 {g j : Nat} {x : VM} {w w' : World} (h : OnlyB x.a1 x.b.xs w w') (hg : blk1 x ≠ some g) : OneV g j x w w' :=
  ⟨h.size, h.facts.1, h.facts.2.1, h.facts.2.2, fun b _ h1 _ => h.heap h1, fun o _ => World.cell?_of_block (w := w) (a := ⟨g, o, none⟩) (h.heap hg), fun o => World.frozen?_of_block (w := w) (a := ⟨g, o, none⟩) (h.heap hg)⟩
theorem OneV.of2 {g j : Nat} {x : VM} {w w' : World} (h : OnlyB x.a2 x.b.ys w w') (hg : blk2 x ≠ some g) : OneV g j x w w' :=
  ⟨h.size, h.facts.1, h.facts.2.1, h.facts.2.2, fun b _ _ h2 => h.heap h2, fun o _ => World.cell?_of_block (w := w) (a := ⟨g, o, none⟩) (h.heap hg), fun o => World.frozen?_of_block (w := w) (a := ⟨g, o, none⟩) (h.heap hg)⟩

/-- One vote more is marked. -/
theorem mv_step {w w' : World} {B g j : Nat} {k0 : Int} {vs : List VM} (h : OwnVs w B g (mixV k0 vs j)) (sep : Sep g vs) (hj : j < vs.length) (ho : OneV g j (vs.getD j v0) w w') (hc : C8 w' g (j * 8) (markedV (k0 + (stepsV vs j : Nat)) (vs.getD j v0))) (h1 : OwnB w' B (vs.getD j v0).a1 (markedV (k0 + (stepsV vs j : Nat)) (vs.getD j v0)).b.xs) (h2 : OwnB w' B (vs.getD j v0).a2 (markedV (k0 + (stepsV vs j : Nat)) (vs.getD j v0)).b.ys) : OwnVs w' B g (mixV k0 vs (j + 1)) := by
  have atO : ∀ i, i < vs.length → i ≠ j → (mixV k0 vs (j + 1)).getD i v0 = (mixV k0 vs j).getD i v0 := fun i hi hne => by
    rw [mixV_at _ _ _ hi, mixV_at _ _ _ hi]
    by_cases hl : i < j
    · rw [if_pos hl, if_pos (by omega)]
    · rw [if_neg hl, if_neg (by omega)]
  have atJ : (mixV k0 vs (j + 1)).getD j v0 = markedV (k0 + (stepsV vs j : Nat)) (vs.getD j v0) := by rw [mixV_at _ _ _ hj, if_pos (by omega)]
  refine ⟨by rw [ho.size]; exact h.lt, h.lo, fun o => by rw [ho.fr]; exact h.fr o, fun i hi => ?_, fun i hi => ?_⟩
  · rw [mixV_len] at hi
    by_cases e : i = j
    · subst e; rw [atJ]; exact hc
    · rw [atO i hi e]
      exact (h.cell i (by rw [mixV_len]; exact hi)).congr fun l hl => ho.cells _ (by omega)
  · rw [mixV_len] at hi
    by_cases e : i = j
    · subst e; rw [atJ]; exact ⟨h1, h2⟩
    · rw [atO i hi e]
      have o := h.own i (by rw [mixV_len]; exact hi)
      have m := mix_blk k0 vs j hi
      have keep : ∀ b, (blk1 (vs.getD i v0) = some b ∨ blk2 (vs.getD i v0) = some b) → w'.heap[b]? = w.heap[b]? := fun b hb => by
        have s := sep.all i j hi hj e b hb
        refine ho.block b (fun eg => ?_) s.1 s.2
        have s1 := sep.one i hi
        rw [eg] at hb
        rcases hb with hb | hb
        · exact s1.1 hb
        · exact s1.2 hb
      exact ⟨o.1.blk ho.size fun b hb => keep b (.inl (by rw [← m.1]; exact hb)), o.2.blk ho.size fun b hb => keep b (.inr (by rw [← m.2]; exact hb))⟩
end Go.Proofs.Ytfifiobcmdmefaa.Own

namespace Go.Proofs.Ytfifiobcmdmefaa.Own
open Go.RowKit
set_option linter.unusedVariables false

def flat (xs : List (Int × Int)) : List Value := xs.flatMap fun p => [.int .i64 p.1, .int .i64 p.2]
theorem flat_length (xs : List (Int × Int)) : (flat xs).length = xs.length * 2 := by
  induction xs with
  | nil => rfl
  | cons p r ih => simp [flat] at ih ⊢; omega
theorem flat_one (xs : List (Int × Int)) : ∀ v ∈ flat xs, v.oneCell' = true := by
  intro v hv
  simp [flat] at hv
  obtain ⟨a, b, _, h⟩ := hv
  rcases h with rfl | rfl <;> rfl
theorem flat_even (xs : List (Int × Int)) (i : Nat) (h : i < xs.length) : (flat xs)[i * 2]? = some (.int .i64 (xs.getD i (0, 0)).1) ∧ (flat xs)[i * 2 + 1]? = some (.int .i64 (xs.getD i (0, 0)).2) := by
  induction xs generalizing i with
  | nil => simp at h
  | cons p r ih =>
    cases i with
    | zero => simp [flat]
    | succ i =>
      have := ih i (by simpa using h)
      simp only [flat, List.flatMap_cons] at this ⊢
      rw [show (i + 1) * 2 = i * 2 + 2 by omega, show i * 2 + 2 + 1 = i * 2 + 1 + 2 by omega]
      simpa using this
end Go.Proofs.Ytfifiobcmdmefaa.Own

namespace Go.Proofs.Ytfifiobcmdmefaa.Own
open Go.RowKit
set_option linter.unusedVariables false
set_option linter.unusedSimpArgs false

theorem owned2 {w : World} {e : TypeId} {base m : Nat} {v : Value} {xs : List P2} (h : w.ownsRow base e 2 v m (flat xs)) (hm : 0 < m) :
    ∃ g cap, v = .slice (some ⟨g, 0, none⟩) m cap ∧ base ≤ g ∧ m ≤ cap ∧ BoxAt w g 0 xs ∧ (∀ o, w.frozen? ⟨g, o, none⟩ = false) := by
  obtain ⟨hl, h⟩ := h
  rcases h with ⟨_, h0⟩ | ⟨g, cap, cur, hv, hb, hh, hmc, _, hsz, htk⟩
  · omega
  refine ⟨g, cap, hv, hb, hmc, ⟨(Array.getElem?_eq_some_iff.1 hh).1, fun i hi => ?_⟩, fun o => frozen_heap hh o⟩
  have e := flat_even xs i hi
  rw [flat_length] at hl
  rw [← htk] at e
  rw [cell_heap hh, cell_heap hh, Nat.zero_add]
  rw [List.getElem?_take_of_lt (by omega), List.getElem?_take_of_lt (by omega)] at e
  simpa using e
theorem flat_atP {w : World} {b off : Nat} {xs : List P2} (h : BoxAt w b off xs) (j : Nat) (v : Value) (hv : (flat xs)[j]? = some v) : w.cell? ((⟨b, off, none⟩ : Addr).add j) = some v := by
  have e : (⟨b, off, none⟩ : Addr).add j = ⟨b, off + j, none⟩ := by unfold Addr.add; split <;> simp_all
  have hl : j < (flat xs).length := (List.getElem?_eq_some_iff.1 hv).1
  rw [flat_length] at hl
  have hk : j / 2 < xs.length := by omega
  have f := flat_even _ (j / 2) hk
  have hx := h.2 (j / 2) hk
  rw [e]
  rcases Nat.mod_two_eq_zero_or_one j with m | m
  · rw [show j / 2 * 2 = j by omega] at f hx
    rw [hx.1, ← f.1, hv]
  · rw [show off + j / 2 * 2 + 1 = off + j by omega] at hx
    rw [show j / 2 * 2 + 1 = j by omega] at f
    rw [hx.2, ← f.2, hv]

theorem wpList_copyB {P : Program} {w : World} {ops : Array Oper} {rest : List Oper} {o : Oper} {a : Act} {Q : Exit → Act → World → Prop} (hgd : o.guard = none) (s x : Operand) (t : TypeId)
    (ho : o.op = .call { callee := .builtin .append, args := #[s, x], argTypes := #[t, t] }) (e : TypeId) (ht : P.underlying t = some (.slice e))
    (hi3 : (P.info? e).map (fun i => (i.zero, i.size, i.bytes)) = some (some (.agg #[.int .i64 0, .int .i64 0]), 2, 16))
    (hs : a.eval s = .slice none 0 0) (a1 : Option Addr) (c1 : Nat) (xs : List P2) (hx : a.eval x = .slice a1 xs.length c1) (hsl : Sl w a1 xs) (hl : xs.length ≤ 2 ^ 40) (H : Nat) (hH : w.heap.size = H)
    (h : ∀ a2 c2 w', OwnB w' H a2 xs → xs.length ≤ c2 → w.grownBy w' none → (∀ b, blkOf a2 xs.length = some b → H ≤ b ∧ b < w'.heap.size) → wpList P ops Q rest (a.put o.dst (.slice a2 xs.length c2)) w') : wpList P ops Q (o :: rest) a w := by
  obtain ⟨i, hi, hz, hsize, hby⟩ := info_parts hi3
  by_cases h0 : xs = []
  · subst h0
    have hsrc : Src P i.size t (.slice a1 0 c1) 0 [] w := by
      cases a1 with
      | none => exact Src.ofNil w ht c1
      | some ad => exact Src.ofSlice w ht ad 0 c1 [] (by simp) (fun j u h => by simp at h) (fun u h => by simp at h)
    have hr := run_append_nothing w t t o.type e i ht hi none 0 0 (Nat.le_refl _) _ hsrc
    have hx' : a.eval x = .slice a1 0 c1 := hx
    refine wpList_plain hgd fun K hK => ?_
    unfold Oper.wp execOp
    simp only [ho, resolve, invoke, builtin, Sem.run_bind, Sem.run_pure, Result.andThen_ok, List.map_toArray, List.map_cons, List.map_nil, hs, hx', hr]
    exact hK _ _ (h none 0 w (.inl rfl) (Nat.le_refl _) ⟨rfl, rfl, rfl, Nat.le_refl _, fun _ _ _ => rfl⟩ (fun b hb => by simp [blkOf] at hb))
  · have hpos : 0 < xs.length := List.length_pos_iff.2 h0
    rcases hsl with e' | ⟨b, off, rfl, hat⟩
    · exact absurd e' h0
    refine wpList_append_own w hgd s x t ho w.heap.size e i _ 2 16 ht hi hz hsize hby rfl (by omega) (.slice none 0 0) 0 [] hs (World.ownsRow_nil w _ e 2) ⟨b, off, none⟩ xs.length c1 (flat xs) hx (flat_length xs) (flat_atP hat) (flat_one xs) (by unfold maxLen; omega) (by omega) (Nat.le_refl _) ?_
    intro v' w' hown hgr _
    rw [Nat.zero_add, List.nil_append] at hown
    obtain ⟨g, cap, rfl, hg, hcap, hat', hfr⟩ := owned2 hown hpos
    refine h (some ⟨g, 0, none⟩) cap w' (.inr ⟨g, rfl, by omega, hat', hfr⟩) hcap hgr (fun b' hb' => ?_)
    have : g = b' := by
      unfold blkOf at hb'
      rw [if_neg (by omega)] at hb'
      simpa using hb'
    subst this
    exact ⟨by omega, hat'.1⟩
end Go.Proofs.Ytfifiobcmdmefaa.Own

namespace Go.Proofs.Ytfifiobcmdmefaa.Own
open Go.RowKit
set_option linter.unusedVariables false
set_option linter.unusedSimpArgs false

theorem infoReadC : (Try.prog.info? 140).map (fun i => (i.zero, i.size, i.bytes)) = some (some (.agg #[.int .i64 0, .int .i64 0]), 2, 16) := by kernel_rfl
theorem infoPutC : (Try.prog.info? 143).map (fun i => (i.zero, i.size, i.bytes)) = some (some (.agg #[.int .i64 0, .int .i64 0]), 2, 16) := by kernel_rfl

/-- An entry's seven cells. -/
def VM.ecells (x : VM) : Array Value := #[.bool x.b.n, .int .i64 x.b.p, .int .i64 x.b.q, .slice x.a1 x.b.xs.length x.c1, .slice x.a2 x.b.ys.length x.c2, .int .i64 x.b.v, .int .i64 x.b.k]
/-- A vote that a call made: its lists from block B on, apart, and of a room that holds them. -/
structure OneOwn (w : World) (B : Nat) (y : VM) : Prop where
  l1 : OwnB w B y.a1 y.b.xs
  l2 : OwnB w B y.a2 y.b.ys
  c1 : y.b.xs.length ≤ y.c1
  c2 : y.b.ys.length ≤ y.c2
  b1 : ∀ b, blk1 y = some b → B ≤ b ∧ b < w.heap.size
  b2 : ∀ b, blk2 y = some b → B ≤ b ∧ b < w.heap.size
  ap : ∀ b, blk1 y = some b → blk2 y ≠ some b

set_option maxRecDepth 100000 in
set_option maxHeartbeats 2000000 in
theorem entCopied (x : VM) (w : World) (h1 : Sl w x.a1 x.b.xs) (h2 : Sl w x.a2 x.b.ys) (k1 : x.b.xs.length ≤ 2 ^ 40) (k2 : x.b.ys.length ≤ 2 ^ 40) :
    Calls Try.prog 98 #[.agg x.ecells] w fun e w' => ∃ y : VM, e = .returned (.agg y.ecells) ∧ y.body = x.body ∧ OneOwn w' w.heap.size y ∧ Below w.heap.size w w' := by
  obtain ⟨bal, ⟨n, p, q, xs, ys, v, k⟩, a1, c1, a2, c2⟩ := x
  simp only [VM.ecells] at *
  have H1 : Hid (Sl w a1 xs) := h1
  have H2 : Hid (Sl w a2 ys) := h2
  clear h1 h2
  obtain ⟨X, hX⟩ : ∃ X, X = (w.alloc (.cells #[.bool n, .int .i64 p, .int .i64 q, .slice a1 xs.length c1, .slice a2 ys.length c2, .int .i64 v, .int .i64 k] 33)).alloc (.cells #[.bool false, .int .i64 0, .int .i64 0, .slice none 0 0, .slice none 0 0, .int .i64 0, .int .i64 0] 33) := ⟨_, rfl⟩
  have P0 : Hid (Blk X w.heap.size #[.bool n, .int .i64 p, .int .i64 q, .slice a1 xs.length c1, .slice a2 ys.length c2, .int .i64 v, .int .i64 k] 33) := by
    show Blk _ _ _ _; rw [hX]; exact (Blk.new _ _ _).alloc _
  have R0 : Hid (Blk X (w.heap.size + 1) #[.bool false, .int .i64 0, .int .i64 0, .slice none 0 0, .slice none 0 0, .int .i64 0, .int .i64 0] 33) := by
    show Blk _ _ _ _; rw [hX]; exact Blk.new2 _ _ _ _
  have BX : Hid (Below w.heap.size w X) := by
    show Below _ _ _; rw [hX]; exact ((Below.refl _ _).alloc (Nat.le_refl _) _).alloc (by rw [size_new]; omega) _
  have SX : X.heap.size = w.heap.size + 1 + 1 := by rw [hX, size_new, size_new]
  have HX : Hid (X = _) := hX
  clear hX
  obtain ⟨q0, q1, q2, q3, q4, q5, q6⟩ := P0.out.cells7
  have fr := P0.out.frozen
  go_enter Try.func98, Try.ntmps98
  go_upto_region 1 with fail
  rw [← HX.out]
  go_wp2_with (at_builtin; refine wpList_copyB rfl _ (.tmp 5) 28 rfl 140 Try.underlying28 infoReadC rfl a1 c1 xs rfl (H1.out.below BX.out) k1 (w.heap.size + 1 + 1) SX ?_)
  intro g1 e1 w3 o1 le1 gr1 hb1
  have B3 : Hid (Below X.heap.size X w3) := (Below.refl _ _).grown gr1 (Nat.le_refl _) (fun k hk => by cases hk)
  have P3 : Hid (Blk w3 w.heap.size #[.bool n, .int .i64 p, .int .i64 q, .slice a1 xs.length c1, .slice a2 ys.length c2, .int .i64 v, .int .i64 k] 33) := P0.out.keep B3.out
  have R3 : Hid (Blk w3 (w.heap.size + 1) #[.bool false, .int .i64 0, .int .i64 0, .slice none 0 0, .slice none 0 0, .int .i64 0, .int .i64 0] 33) := R0.out.keep B3.out
  have O1 : Hid (OwnB w3 (w.heap.size + 1 + 1) g1 xs) := o1
  have L1 : Hid (xs.length ≤ e1) := le1
  have G1 : Hid (∀ b, blkOf g1 xs.length = some b → w.heap.size + 1 + 1 ≤ b ∧ b < w3.heap.size) := hb1
  clear o1 le1 gr1 hb1 q0 q1 q2 q3 q4 q5 q6 fr
  obtain ⟨q0, q1, q2, q3, q4, q5, q6⟩ := P3.out.cells7
  have fr := P3.out.frozen
  go_upto_region 2 with fail
  obtain ⟨Y, hY⟩ : ∃ Y, Y = w3.setCell ⟨w.heap.size, 3, none⟩ (.slice g1 xs.length e1) := ⟨_, rfl⟩
  have HY : Hid (Y = w3.setCell ⟨w.heap.size, 3, none⟩ (.slice g1 xs.length e1)) := hY
  rw [← hY]
  have SY : Y.heap.size = w3.heap.size := by rw [hY]; simp [World.setCell]
  have S3 : w.heap.size + 1 + 1 ≤ w3.heap.size := by have := B3.out.size; omega
  have PY : Hid (Blk Y w.heap.size #[.bool n, .int .i64 p, .int .i64 q, .slice g1 xs.length e1, .slice a2 ys.length c2, .int .i64 v, .int .i64 k] 33) := by
    show Blk _ _ _ _; rw [hY]; exact P3.out.set 3 _
  have RY : Hid (Blk Y (w.heap.size + 1) #[.bool false, .int .i64 0, .int .i64 0, .slice none 0 0, .slice none 0 0, .int .i64 0, .int .i64 0] 33) := by
    show Blk _ _ _ _; rw [hY]; exact R3.out.other (by omega) _ _
  have BY : Hid (Below w.heap.size w Y) := by
    show Below _ _ _; rw [hY]; exact (BX.out.trans (B3.out.mono (by omega))).setCell (Nat.le_refl _) _
  have OY : Hid (OwnB Y (w.heap.size + 1 + 1) g1 xs) := O1.out.blk SY fun b hb => by
    have := G1.out b hb
    have hne : b ≠ w.heap.size := by omega
    rw [hY]; exact Below.heap_setCell _ _ _ _ hne
  clear q0 q1 q2 q3 q4 q5 q6 fr hY
  obtain ⟨q0, q1, q2, q3, q4, q5, q6⟩ := PY.out.cells7
  have fr := PY.out.frozen
  go_wp2_with (at_builtin; refine wpList_copyB rfl _ (.tmp 11) 29 rfl 143 Try.underlying29 infoPutC rfl a2 c2 ys rfl (H2.out.below BY.out) k2 w3.heap.size SY ?_)
  intro g2 e2 w4 o2 le2 gr2 hb2
  have B4 : Hid (Below Y.heap.size Y w4) := (Below.refl _ _).grown gr2 (Nat.le_refl _) (fun k hk => by cases hk)
  have P4 : Hid (Blk w4 w.heap.size #[.bool n, .int .i64 p, .int .i64 q, .slice g1 xs.length e1, .slice a2 ys.length c2, .int .i64 v, .int .i64 k] 33) := PY.out.keep B4.out
  have R4 : Hid (Blk w4 (w.heap.size + 1) #[.bool false, .int .i64 0, .int .i64 0, .slice none 0 0, .slice none 0 0, .int .i64 0, .int .i64 0] 33) := RY.out.keep B4.out
  have O2 : Hid (OwnB w4 w3.heap.size g2 ys) := o2
  have L2 : Hid (ys.length ≤ e2) := le2
  have G2 : Hid (∀ b, blkOf g2 ys.length = some b → w3.heap.size ≤ b ∧ b < w4.heap.size) := hb2
  have O14 : Hid (OwnB w4 (w.heap.size + 1 + 1) g1 xs) := OY.out.below B4.out
  have S4 : w3.heap.size ≤ w4.heap.size := by have := B4.out.size; omega
  clear o2 le2 gr2 hb2 q0 q1 q2 q3 q4 q5 q6 fr
  obtain ⟨q0, q1, q2, q3, q4, q5, q6⟩ := P4.out.cells7
  have fr := P4.out.frozen
  go_upto_region 3 with fail
  obtain ⟨Z, hZ⟩ : ∃ Z, Z = w4.setCell ⟨w.heap.size, 4, none⟩ (.slice g2 ys.length e2) := ⟨_, rfl⟩
  have HZ : Hid (Z = w4.setCell ⟨w.heap.size, 4, none⟩ (.slice g2 ys.length e2)) := hZ
  rw [← hZ]
  have SZ : Z.heap.size = w4.heap.size := by rw [hZ]; simp [World.setCell]
  have PZ : Hid (Blk Z w.heap.size #[.bool n, .int .i64 p, .int .i64 q, .slice g1 xs.length e1, .slice g2 ys.length e2, .int .i64 v, .int .i64 k] 33) := by
    show Blk _ _ _ _; rw [hZ]; exact P4.out.set 4 _
  have RZ : Hid (Blk Z (w.heap.size + 1) #[.bool false, .int .i64 0, .int .i64 0, .slice none 0 0, .slice none 0 0, .int .i64 0, .int .i64 0] 33) := by
    show Blk _ _ _ _; rw [hZ]; exact R4.out.other (by omega) _ _
  have BZ : Hid (Below w.heap.size w Z) := by
    show Below _ _ _; rw [hZ]; exact (BY.out.trans (B4.out.mono (by omega))).setCell (Nat.le_refl _) _
  have zb : ∀ b, b ≠ w.heap.size → Z.heap[b]? = w4.heap[b]? := fun b hb => by rw [hZ]; exact Below.heap_setCell _ _ _ _ hb
  have O1Z : Hid (OwnB Z (w.heap.size + 1 + 1) g1 xs) := O14.out.blk SZ fun b hb => zb b (by have := G1.out b hb; omega)
  have O2Z : Hid (OwnB Z w3.heap.size g2 ys) := O2.out.blk SZ fun b hb => zb b (by have := G2.out b hb; omega)
  clear q0 q1 q2 q3 q4 q5 q6 fr hZ zb
  obtain ⟨q0, q1, q2, q3, q4, q5, q6⟩ := PZ.out.cells7
  obtain ⟨r0, r1, r2, r3, r4, r5, r6⟩ := RZ.out.cells7
  have fr := RZ.out.frozen
  go_wp2_with fail
  obtain ⟨U, hU⟩ : ∃ U, U = ((((((Z.setCell ⟨w.heap.size + 1, 0, none⟩ (.bool n)).setCell ⟨w.heap.size + 1, 1, none⟩ (.int .i64 p)).setCell ⟨w.heap.size + 1, 2, none⟩ (.int .i64 q)).setCell ⟨w.heap.size + 1, 3, none⟩ (.slice g1 xs.length e1)).setCell ⟨w.heap.size + 1, 4, none⟩ (.slice g2 ys.length e2)).setCell ⟨w.heap.size + 1, 5, none⟩ (.int .i64 v)).setCell ⟨w.heap.size + 1, 6, none⟩ (.int .i64 k) := ⟨_, rfl⟩
  rw [← hU]
  have RU : Blk U (w.heap.size + 1) #[.bool n, .int .i64 p, .int .i64 q, .slice g1 xs.length e1, .slice g2 ys.length e2, .int .i64 v, .int .i64 k] 33 := by
    rw [hU]; exact ((((((RZ.out.set 0 _).set 1 _).set 2 _).set 3 _).set 4 _).set 5 _).set 6 _
  have SU : U.heap.size = Z.heap.size := by rw [hU]; simp [World.setCell]
  have BU : Below w.heap.size w U := by
    rw [hU]
    exact ((((((BZ.out.setCell (by show w.heap.size ≤ w.heap.size + 1; omega) _).setCell (by show w.heap.size ≤ w.heap.size + 1; omega) _).setCell (by show w.heap.size ≤ w.heap.size + 1; omega) _).setCell (by show w.heap.size ≤ w.heap.size + 1; omega) _).setCell (by show w.heap.size ≤ w.heap.size + 1; omega) _).setCell (by show w.heap.size ≤ w.heap.size + 1; omega) _).setCell (by show w.heap.size ≤ w.heap.size + 1; omega) _
  have ub : ∀ b, b ≠ w.heap.size + 1 → U.heap[b]? = Z.heap[b]? := fun b hb => by
    rw [hU, Below.heap_setCell _ _ _ _ hb, Below.heap_setCell _ _ _ _ hb, Below.heap_setCell _ _ _ _ hb, Below.heap_setCell _ _ _ _ hb, Below.heap_setCell _ _ _ _ hb, Below.heap_setCell _ _ _ _ hb, Below.heap_setCell _ _ _ _ hb]
  have O1U : OwnB U (w.heap.size + 1 + 1) g1 xs := O1Z.out.blk SU fun b hb => ub b (by have := G1.out b hb; omega)
  have O2U : OwnB U w3.heap.size g2 ys := O2Z.out.blk SU fun b hb => ub b (by have := G2.out b hb; omega)
  obtain ⟨z0, z1, z2, z3, z4, z5, z6⟩ := RU.cells7
  refine bodyPost_ret (v := .agg #[.bool n, .int .i64 p, .int .i64 q, .slice g1 xs.length e1, .slice g2 ys.length e2, .int .i64 v, .int .i64 k]) (by simp [results, Try.results98, go_sem, z0, z1, z2, z3, z4, z5, z6]) rfl ?_
  refine ⟨⟨bal, ⟨n, p, q, xs, ys, v, k⟩, g1, e1, g2, e2⟩, rfl, rfl, ⟨O1U.weaken (by omega), O2U.weaken (by omega), L1.out, L2.out, fun b hb => ?_, fun b hb => ?_, fun b hb hb' => ?_⟩, BU⟩
  · have := G1.out b hb; omega
  · have := G2.out b hb; omega
  · have := G1.out b hb
    have := G2.out b hb'
    omega

theorem OneOwn.blkV {w w' : World} {B : Nat} {y : VM} (h : OneOwn w B y) (hs : w.heap.size ≤ w'.heap.size) (hb : ∀ b, (blk1 y = some b ∨ blk2 y = some b) → w'.heap[b]? = w.heap[b]?) : OneOwn w' B y := by
  have f : ∀ (a : Option Addr) (xs : List P2), OwnB w B a xs → (∀ b, blkOf a xs.length = some b → w'.heap[b]? = w.heap[b]?) → OwnB w' B a xs := fun a xs h hb => by
    rcases h with h | ⟨g, rfl, hB, h, hf⟩
    · exact .inl h
    · by_cases h0 : xs = []
      · exact .inl h0
      · have hl : xs.length ≠ 0 := fun e => h0 (List.eq_nil_of_length_eq_zero e)
        have e := hb g (by simp [blkOf, hl])
        exact .inr ⟨g, rfl, hB, h.block hs e, fun o => by rw [World.frozen?_of_block (w := w) (a := ⟨g, o, none⟩) e]; exact hf o⟩
  exact ⟨f _ _ h.l1 fun b e => hb b (.inl e), f _ _ h.l2 fun b e => hb b (.inr e), h.c1, h.c2, fun b e => ⟨(h.b1 b e).1, Nat.lt_of_lt_of_le (h.b1 b e).2 hs⟩, fun b e => ⟨(h.b2 b e).1, Nat.lt_of_lt_of_le (h.b2 b e).2 hs⟩, h.ap⟩
theorem OneOwn.low {w : World} {B B' : Nat} {y : VM} (h : OneOwn w B y) (hB : B' ≤ B) : OneOwn w B' y :=
  ⟨h.l1.weaken hB, h.l2.weaken hB, h.c1, h.c2, fun b e => ⟨Nat.le_trans hB (h.b1 b e).1, (h.b1 b e).2⟩, fun b e => ⟨Nat.le_trans hB (h.b2 b e).1, (h.b2 b e).2⟩, h.ap⟩
end Go.Proofs.Ytfifiobcmdmefaa.Own

namespace Go.Proofs.Ytfifiobcmdmefaa.Own
open Go.RowKit
set_option linter.unusedVariables false
set_option linter.unusedSimpArgs false

set_option maxHeartbeats 400000 in
theorem l2Reg (n : Int) (w : World) : Calls Try.prog 173 #[.int .i64 n] w fun e w' => e = .returned (.bool (regOk n)) ∧ w' = w := by
  have e : Hid (regOk n = (decide (0 ≤ n) && decide (n ≤ 3))) := rfl
  generalize regOk n = r at e ⊢
  by_cases h1 : 0 ≤ n
  · by_cases h2 : n < 4
    all_goals
      go_enter Try.func173, Try.ntmps173
      go_wp2
      go_ret
      exact ⟨ret_bool (by rw [e.out]; simp [h1]; omega), rfl⟩
  · have h1' : n < 0 := by omega
    go_enter Try.func173, Try.ntmps173
    go_wp2
    go_ret
    exact ⟨ret_bool (by rw [e.out]; simp; omega), rfl⟩

set_option maxHeartbeats 400000 in
theorem l2Box (n : Int) (w : World) : Calls Try.prog 161 #[.int .i64 n] w fun e w' => e = .returned (.bool (regOk n)) ∧ w' = w := by
  have e : Hid (regOk n = (decide (0 ≤ n) && decide (n ≤ 3))) := rfl
  generalize regOk n = r at e ⊢
  by_cases h1 : 0 ≤ n
  · by_cases h2 : n < 4
    all_goals
      go_enter Try.func161, Try.ntmps161
      go_wp2
      go_ret
      exact ⟨ret_bool (by rw [e.out]; simp [h1]; omega), rfl⟩
  · have h1' : n < 0 := by omega
    go_enter Try.func161, Try.ntmps161
    go_wp2
    go_ret
    exact ⟨ret_bool (by rw [e.out]; simp; omega), rfl⟩

set_option maxHeartbeats 400000 in
theorem l1Num2 (n : Int) (w : World) : Calls Try.prog 157 #[.int .i64 n] w fun e w' => e = .returned (.bool (numOk2 n)) ∧ w' = w := by
  have e : Hid (numOk2 n = (decide (-1000000 ≤ n) && decide (n ≤ 1000000))) := rfl
  generalize numOk2 n = r at e ⊢
  by_cases h1 : -1000000 ≤ n
  · by_cases h2 : n ≤ 1000000
    all_goals
      go_enter Try.func157, Try.ntmps157
      go_wp2
      go_ret
      exact ⟨ret_bool (by rw [e.out]; simp [h1, h2]), rfl⟩
  · have h1' : n < -1000000 := by omega
    go_enter Try.func157, Try.ntmps157
    go_wp2
    go_ret
    exact ⟨ret_bool (by rw [e.out]; simp; omega), rfl⟩

set_option maxRecDepth 100000 in
set_option maxHeartbeats 2000000 in
theorem l2Ins1 (a b n : Int) (w : World) : Calls Try.prog 158 #[.agg #[.int .i64 1, .int .i64 a, .int .i64 b, .int .i64 n]] w fun e w' => e = .returned (.bool (regOk a && regOk b && (n == 0))) ∧ Below w.heap.size w w' := by
  cases ha : regOk a with
  | false =>
    go_enter Try.func158, Try.ntmps158
    go_wp2_with (first | (go_at_call 173; refine (l2Reg _ _).mono ?_; rintro e w' ⟨rfl, rfl⟩) | (go_at_call 161; refine (l2Box _ _).mono ?_; rintro e w' ⟨rfl, rfl⟩) | (go_at_call 157; refine (l1Num2 _ _).mono ?_; rintro e w' ⟨rfl, rfl⟩))
    go_ret
    exact ⟨ret_bool (by simp), (Below.refl _ _).alloc (Nat.le_refl _) _⟩
  | true =>
    cases hb : regOk b with
    | false =>
      go_enter Try.func158, Try.ntmps158
      go_wp2_with (first | (go_at_call 173; refine (l2Reg _ _).mono ?_; rintro e w' ⟨rfl, rfl⟩) | (go_at_call 161; refine (l2Box _ _).mono ?_; rintro e w' ⟨rfl, rfl⟩) | (go_at_call 157; refine (l1Num2 _ _).mono ?_; rintro e w' ⟨rfl, rfl⟩))
      go_ret
      exact ⟨ret_bool (by simp), (Below.refl _ _).alloc (Nat.le_refl _) _⟩
    | true =>
      cases hn : (n == 0) with
      | false =>
        go_enter Try.func158, Try.ntmps158
        go_wp2_with (first | (go_at_call 173; refine (l2Reg _ _).mono ?_; rintro e w' ⟨rfl, rfl⟩) | (go_at_call 161; refine (l2Box _ _).mono ?_; rintro e w' ⟨rfl, rfl⟩) | (go_at_call 157; refine (l1Num2 _ _).mono ?_; rintro e w' ⟨rfl, rfl⟩))
        go_ret
        exact ⟨ret_bool (by simp), (Below.refl _ _).alloc (Nat.le_refl _) _⟩
      | true =>
        go_enter Try.func158, Try.ntmps158
        go_wp2_with (first | (go_at_call 173; refine (l2Reg _ _).mono ?_; rintro e w' ⟨rfl, rfl⟩) | (go_at_call 161; refine (l2Box _ _).mono ?_; rintro e w' ⟨rfl, rfl⟩) | (go_at_call 157; refine (l1Num2 _ _).mono ?_; rintro e w' ⟨rfl, rfl⟩))
        go_ret
        exact ⟨ret_bool (by simp), (Below.refl _ _).alloc (Nat.le_refl _) _⟩

set_option maxRecDepth 100000 in
set_option maxHeartbeats 2000000 in
theorem l2Ins2 (a b n : Int) (w : World) : Calls Try.prog 158 #[.agg #[.int .i64 2, .int .i64 a, .int .i64 b, .int .i64 n]] w fun e w' => e = .returned (.bool (regOk a && regOk b && (n == 0))) ∧ Below w.heap.size w w' := by
  cases ha : regOk a with
  | false =>
    go_enter Try.func158, Try.ntmps158
    go_wp2_with (first | (go_at_call 173; refine (l2Reg _ _).mono ?_; rintro e w' ⟨rfl, rfl⟩) | (go_at_call 161; refine (l2Box _ _).mono ?_; rintro e w' ⟨rfl, rfl⟩) | (go_at_call 157; refine (l1Num2 _ _).mono ?_; rintro e w' ⟨rfl, rfl⟩))
    go_ret
    exact ⟨ret_bool (by simp), (Below.refl _ _).alloc (Nat.le_refl _) _⟩
  | true =>
    cases hb : regOk b with
    | false =>
      go_enter Try.func158, Try.ntmps158
      go_wp2_with (first | (go_at_call 173; refine (l2Reg _ _).mono ?_; rintro e w' ⟨rfl, rfl⟩) | (go_at_call 161; refine (l2Box _ _).mono ?_; rintro e w' ⟨rfl, rfl⟩) | (go_at_call 157; refine (l1Num2 _ _).mono ?_; rintro e w' ⟨rfl, rfl⟩))
      go_ret
      exact ⟨ret_bool (by simp), (Below.refl _ _).alloc (Nat.le_refl _) _⟩
    | true =>
      cases hn : (n == 0) with
      | false =>
        go_enter Try.func158, Try.ntmps158
        go_wp2_with (first | (go_at_call 173; refine (l2Reg _ _).mono ?_; rintro e w' ⟨rfl, rfl⟩) | (go_at_call 161; refine (l2Box _ _).mono ?_; rintro e w' ⟨rfl, rfl⟩) | (go_at_call 157; refine (l1Num2 _ _).mono ?_; rintro e w' ⟨rfl, rfl⟩))
        go_ret
        exact ⟨ret_bool (by simp), (Below.refl _ _).alloc (Nat.le_refl _) _⟩
      | true =>
        go_enter Try.func158, Try.ntmps158
        go_wp2_with (first | (go_at_call 173; refine (l2Reg _ _).mono ?_; rintro e w' ⟨rfl, rfl⟩) | (go_at_call 161; refine (l2Box _ _).mono ?_; rintro e w' ⟨rfl, rfl⟩) | (go_at_call 157; refine (l1Num2 _ _).mono ?_; rintro e w' ⟨rfl, rfl⟩))
        go_ret
        exact ⟨ret_bool (by simp), (Below.refl _ _).alloc (Nat.le_refl _) _⟩

set_option maxRecDepth 100000 in
set_option maxHeartbeats 2000000 in
theorem l2Ins3 (a b n : Int) (w : World) : Calls Try.prog 158 #[.agg #[.int .i64 3, .int .i64 a, .int .i64 b, .int .i64 n]] w fun e w' => e = .returned (.bool (regOk a && (b == 0) && numOk2 n)) ∧ Below w.heap.size w w' := by
  cases ha : regOk a with
  | false =>
    go_enter Try.func158, Try.ntmps158
    go_wp2_with (first | (go_at_call 173; refine (l2Reg _ _).mono ?_; rintro e w' ⟨rfl, rfl⟩) | (go_at_call 161; refine (l2Box _ _).mono ?_; rintro e w' ⟨rfl, rfl⟩) | (go_at_call 157; refine (l1Num2 _ _).mono ?_; rintro e w' ⟨rfl, rfl⟩))
    go_ret
    exact ⟨ret_bool (by simp), (Below.refl _ _).alloc (Nat.le_refl _) _⟩
  | true =>
    cases hb : (b == 0) with
    | false =>
      go_enter Try.func158, Try.ntmps158
      go_wp2_with (first | (go_at_call 173; refine (l2Reg _ _).mono ?_; rintro e w' ⟨rfl, rfl⟩) | (go_at_call 161; refine (l2Box _ _).mono ?_; rintro e w' ⟨rfl, rfl⟩) | (go_at_call 157; refine (l1Num2 _ _).mono ?_; rintro e w' ⟨rfl, rfl⟩))
      go_ret
      exact ⟨ret_bool (by simp), (Below.refl _ _).alloc (Nat.le_refl _) _⟩
    | true =>
      cases hn : numOk2 n with
      | false =>
        go_enter Try.func158, Try.ntmps158
        go_wp2_with (first | (go_at_call 173; refine (l2Reg _ _).mono ?_; rintro e w' ⟨rfl, rfl⟩) | (go_at_call 161; refine (l2Box _ _).mono ?_; rintro e w' ⟨rfl, rfl⟩) | (go_at_call 157; refine (l1Num2 _ _).mono ?_; rintro e w' ⟨rfl, rfl⟩))
        go_ret
        exact ⟨ret_bool (by simp), (Below.refl _ _).alloc (Nat.le_refl _) _⟩
      | true =>
        go_enter Try.func158, Try.ntmps158
        go_wp2_with (first | (go_at_call 173; refine (l2Reg _ _).mono ?_; rintro e w' ⟨rfl, rfl⟩) | (go_at_call 161; refine (l2Box _ _).mono ?_; rintro e w' ⟨rfl, rfl⟩) | (go_at_call 157; refine (l1Num2 _ _).mono ?_; rintro e w' ⟨rfl, rfl⟩))
        go_ret
        exact ⟨ret_bool (by simp), (Below.refl _ _).alloc (Nat.le_refl _) _⟩

set_option maxRecDepth 100000 in
set_option maxHeartbeats 2000000 in
theorem l2Ins4 (a b n : Int) (w : World) : Calls Try.prog 158 #[.agg #[.int .i64 4, .int .i64 a, .int .i64 b, .int .i64 n]] w fun e w' => e = .returned (.bool (regOk a && regOk b && (n == 0))) ∧ Below w.heap.size w w' := by
  cases ha : regOk a with
  | false =>
    go_enter Try.func158, Try.ntmps158
    go_wp2_with (first | (go_at_call 173; refine (l2Reg _ _).mono ?_; rintro e w' ⟨rfl, rfl⟩) | (go_at_call 161; refine (l2Box _ _).mono ?_; rintro e w' ⟨rfl, rfl⟩) | (go_at_call 157; refine (l1Num2 _ _).mono ?_; rintro e w' ⟨rfl, rfl⟩))
    go_ret
    exact ⟨ret_bool (by simp), (Below.refl _ _).alloc (Nat.le_refl _) _⟩
  | true =>
    cases hb : regOk b with
    | false =>
      go_enter Try.func158, Try.ntmps158
      go_wp2_with (first | (go_at_call 173; refine (l2Reg _ _).mono ?_; rintro e w' ⟨rfl, rfl⟩) | (go_at_call 161; refine (l2Box _ _).mono ?_; rintro e w' ⟨rfl, rfl⟩) | (go_at_call 157; refine (l1Num2 _ _).mono ?_; rintro e w' ⟨rfl, rfl⟩))
      go_ret
      exact ⟨ret_bool (by simp), (Below.refl _ _).alloc (Nat.le_refl _) _⟩
    | true =>
      cases hn : (n == 0) with
      | false =>
        go_enter Try.func158, Try.ntmps158
        go_wp2_with (first | (go_at_call 173; refine (l2Reg _ _).mono ?_; rintro e w' ⟨rfl, rfl⟩) | (go_at_call 161; refine (l2Box _ _).mono ?_; rintro e w' ⟨rfl, rfl⟩) | (go_at_call 157; refine (l1Num2 _ _).mono ?_; rintro e w' ⟨rfl, rfl⟩))
        go_ret
        exact ⟨ret_bool (by simp), (Below.refl _ _).alloc (Nat.le_refl _) _⟩
      | true =>
        go_enter Try.func158, Try.ntmps158
        go_wp2_with (first | (go_at_call 173; refine (l2Reg _ _).mono ?_; rintro e w' ⟨rfl, rfl⟩) | (go_at_call 161; refine (l2Box _ _).mono ?_; rintro e w' ⟨rfl, rfl⟩) | (go_at_call 157; refine (l1Num2 _ _).mono ?_; rintro e w' ⟨rfl, rfl⟩))
        go_ret
        exact ⟨ret_bool (by simp), (Below.refl _ _).alloc (Nat.le_refl _) _⟩

set_option maxRecDepth 100000 in
set_option maxHeartbeats 2000000 in
theorem l2Ins5 (a b n : Int) (w : World) : Calls Try.prog 158 #[.agg #[.int .i64 5, .int .i64 a, .int .i64 b, .int .i64 n]] w fun e w' => e = .returned (.bool (regOk a && regOk b && (n == 0))) ∧ Below w.heap.size w w' := by
  cases ha : regOk a with
  | false =>
    go_enter Try.func158, Try.ntmps158
    go_wp2_with (first | (go_at_call 173; refine (l2Reg _ _).mono ?_; rintro e w' ⟨rfl, rfl⟩) | (go_at_call 161; refine (l2Box _ _).mono ?_; rintro e w' ⟨rfl, rfl⟩) | (go_at_call 157; refine (l1Num2 _ _).mono ?_; rintro e w' ⟨rfl, rfl⟩))
    go_ret
    exact ⟨ret_bool (by simp), (Below.refl _ _).alloc (Nat.le_refl _) _⟩
  | true =>
    cases hb : regOk b with
    | false =>
      go_enter Try.func158, Try.ntmps158
      go_wp2_with (first | (go_at_call 173; refine (l2Reg _ _).mono ?_; rintro e w' ⟨rfl, rfl⟩) | (go_at_call 161; refine (l2Box _ _).mono ?_; rintro e w' ⟨rfl, rfl⟩) | (go_at_call 157; refine (l1Num2 _ _).mono ?_; rintro e w' ⟨rfl, rfl⟩))
      go_ret
      exact ⟨ret_bool (by simp), (Below.refl _ _).alloc (Nat.le_refl _) _⟩
    | true =>
      cases hn : (n == 0) with
      | false =>
        go_enter Try.func158, Try.ntmps158
        go_wp2_with (first | (go_at_call 173; refine (l2Reg _ _).mono ?_; rintro e w' ⟨rfl, rfl⟩) | (go_at_call 161; refine (l2Box _ _).mono ?_; rintro e w' ⟨rfl, rfl⟩) | (go_at_call 157; refine (l1Num2 _ _).mono ?_; rintro e w' ⟨rfl, rfl⟩))
        go_ret
        exact ⟨ret_bool (by simp), (Below.refl _ _).alloc (Nat.le_refl _) _⟩
      | true =>
        go_enter Try.func158, Try.ntmps158
        go_wp2_with (first | (go_at_call 173; refine (l2Reg _ _).mono ?_; rintro e w' ⟨rfl, rfl⟩) | (go_at_call 161; refine (l2Box _ _).mono ?_; rintro e w' ⟨rfl, rfl⟩) | (go_at_call 157; refine (l1Num2 _ _).mono ?_; rintro e w' ⟨rfl, rfl⟩))
        go_ret
        exact ⟨ret_bool (by simp), (Below.refl _ _).alloc (Nat.le_refl _) _⟩

set_option maxRecDepth 100000 in
set_option maxHeartbeats 2000000 in
theorem l2Ins7 (a b n : Int) (w : World) : Calls Try.prog 158 #[.agg #[.int .i64 7, .int .i64 a, .int .i64 b, .int .i64 n]] w fun e w' => e = .returned (.bool ((a == 0) && (b == 0) && (n == 0))) ∧ Below w.heap.size w w' := by
  cases ha : (a == 0) with
  | false =>
    go_enter Try.func158, Try.ntmps158
    go_wp2_with (first | (go_at_call 173; refine (l2Reg _ _).mono ?_; rintro e w' ⟨rfl, rfl⟩) | (go_at_call 161; refine (l2Box _ _).mono ?_; rintro e w' ⟨rfl, rfl⟩) | (go_at_call 157; refine (l1Num2 _ _).mono ?_; rintro e w' ⟨rfl, rfl⟩))
    go_ret
    exact ⟨ret_bool (by simp), (Below.refl _ _).alloc (Nat.le_refl _) _⟩
  | true =>
    cases hb : (b == 0) with
    | false =>
      go_enter Try.func158, Try.ntmps158
      go_wp2_with (first | (go_at_call 173; refine (l2Reg _ _).mono ?_; rintro e w' ⟨rfl, rfl⟩) | (go_at_call 161; refine (l2Box _ _).mono ?_; rintro e w' ⟨rfl, rfl⟩) | (go_at_call 157; refine (l1Num2 _ _).mono ?_; rintro e w' ⟨rfl, rfl⟩))
      go_ret
      exact ⟨ret_bool (by simp), (Below.refl _ _).alloc (Nat.le_refl _) _⟩
    | true =>
      cases hn : (n == 0) with
      | false =>
        go_enter Try.func158, Try.ntmps158
        go_wp2_with (first | (go_at_call 173; refine (l2Reg _ _).mono ?_; rintro e w' ⟨rfl, rfl⟩) | (go_at_call 161; refine (l2Box _ _).mono ?_; rintro e w' ⟨rfl, rfl⟩) | (go_at_call 157; refine (l1Num2 _ _).mono ?_; rintro e w' ⟨rfl, rfl⟩))
        go_ret
        exact ⟨ret_bool (by simp), (Below.refl _ _).alloc (Nat.le_refl _) _⟩
      | true =>
        go_enter Try.func158, Try.ntmps158
        go_wp2_with (first | (go_at_call 173; refine (l2Reg _ _).mono ?_; rintro e w' ⟨rfl, rfl⟩) | (go_at_call 161; refine (l2Box _ _).mono ?_; rintro e w' ⟨rfl, rfl⟩) | (go_at_call 157; refine (l1Num2 _ _).mono ?_; rintro e w' ⟨rfl, rfl⟩))
        go_ret
        exact ⟨ret_bool (by simp), (Below.refl _ _).alloc (Nat.le_refl _) _⟩

set_option maxRecDepth 100000 in
set_option maxHeartbeats 2000000 in
theorem l2Ins6 (a b n : Int) (w : World) : Calls Try.prog 158 #[.agg #[.int .i64 6, .int .i64 a, .int .i64 b, .int .i64 n]] w fun e w' => e = .returned (.bool (regOk a && regOk b && lessOk n)) ∧ Below w.heap.size w w' := by
  cases ha : regOk a with
  | false =>
    go_enter Try.func158, Try.ntmps158
    go_wp2_with (first | (go_at_call 173; refine (l2Reg _ _).mono ?_; rintro e w' ⟨rfl, rfl⟩) | (go_at_call 161; refine (l2Box _ _).mono ?_; rintro e w' ⟨rfl, rfl⟩) | (go_at_call 157; refine (l1Num2 _ _).mono ?_; rintro e w' ⟨rfl, rfl⟩))
    go_ret
    exact ⟨ret_bool (by simp), (Below.refl _ _).alloc (Nat.le_refl _) _⟩
  | true =>
    cases hb : regOk b with
    | false =>
      go_enter Try.func158, Try.ntmps158
      go_wp2_with (first | (go_at_call 173; refine (l2Reg _ _).mono ?_; rintro e w' ⟨rfl, rfl⟩) | (go_at_call 161; refine (l2Box _ _).mono ?_; rintro e w' ⟨rfl, rfl⟩) | (go_at_call 157; refine (l1Num2 _ _).mono ?_; rintro e w' ⟨rfl, rfl⟩))
      go_ret
      exact ⟨ret_bool (by simp), (Below.refl _ _).alloc (Nat.le_refl _) _⟩
    | true =>
      have e : Hid (lessOk n = (decide (1 ≤ n) && decide (n ≤ 10))) := rfl
      generalize lessOk n = r at e ⊢
      by_cases h1 : 1 ≤ n
      · by_cases h2 : n ≤ 10
        all_goals
          go_enter Try.func158, Try.ntmps158
          go_wp2_with (first | (go_at_call 173; refine (l2Reg _ _).mono ?_; rintro e w' ⟨rfl, rfl⟩) | (go_at_call 161; refine (l2Box _ _).mono ?_; rintro e w' ⟨rfl, rfl⟩) | (go_at_call 157; refine (l1Num2 _ _).mono ?_; rintro e w' ⟨rfl, rfl⟩))
          go_ret
          exact ⟨ret_bool (by rw [e.out]; simp [h1, h2]), (Below.refl _ _).alloc (Nat.le_refl _) _⟩
      · have h1' : n < 1 := by omega
        have h1'' : decide (1 ≤ n) = false := by simpa using h1
        go_enter Try.func158, Try.ntmps158
        go_wp2_with (first | (go_at_call 173; refine (l2Reg _ _).mono ?_; rintro e w' ⟨rfl, rfl⟩) | (go_at_call 161; refine (l2Box _ _).mono ?_; rintro e w' ⟨rfl, rfl⟩) | (go_at_call 157; refine (l1Num2 _ _).mono ?_; rintro e w' ⟨rfl, rfl⟩))
        go_ret
        exact ⟨ret_bool (by rw [e.out, h1'']; rfl), (Below.refl _ _).alloc (Nat.le_refl _) _⟩

/-- A kind that there is not. -/
def NoKindS (k : Int) : Prop := (k == 1) = false ∧ (k == 2) = false ∧ (k == 3) = false ∧ (k == 4) = false ∧ (k == 5) = false ∧ (k == 6) = false ∧ (k == 7) = false
theorem noKindS_of {k : Int} (h1 : k ≠ 1) (h2 : k ≠ 2) (h3 : k ≠ 3) (h4 : k ≠ 4) (h5 : k ≠ 5) (h6 : k ≠ 6) (h7 : k ≠ 7) : NoKindS k := by
  simp [NoKindS, h1, h2, h3, h4, h5, h6, h7]

set_option maxRecDepth 100000 in
set_option maxHeartbeats 2000000 in
theorem l2InsNo (k a b n : Int) (w : World) (h : NoKindS k) : Calls Try.prog 158 #[.agg #[.int .i64 k, .int .i64 a, .int .i64 b, .int .i64 n]] w fun e w' => e = .returned (.bool false) ∧ Below w.heap.size w w' := by
  obtain ⟨h1, h2, h3, h4, h5, h6, h7⟩ := h
  go_enter Try.func158, Try.ntmps158
  go_wp2
  go_ret
  exact ⟨rfl, (Below.refl _ _).alloc (Nat.le_refl _) _⟩

theorem l2Ins (p : Q4) (w : World) : Calls Try.prog 158 #[.agg #[.int .i64 p.1, .int .i64 p.2.1, .int .i64 p.2.2.1, .int .i64 p.2.2.2]] w fun e w' => e = .returned (.bool (insOk p)) ∧ Below w.heap.size w w' := by
  obtain ⟨k, a, b, n⟩ := p
  by_cases h1 : k = 1
  · subst h1; rw [insOk_1]; exact l2Ins1 a b n w
  by_cases h2 : k = 2
  · subst h2; rw [insOk_2]; exact l2Ins2 a b n w
  by_cases h3 : k = 3
  · subst h3; rw [insOk_3]; exact l2Ins3 a b n w
  by_cases h4 : k = 4
  · subst h4; rw [insOk_4]; exact l2Ins4 a b n w
  by_cases h5 : k = 5
  · subst h5; rw [insOk_5]; exact l2Ins5 a b n w
  by_cases h6 : k = 6
  · subst h6; rw [insOk_6]; exact l2Ins6 a b n w
  by_cases h7 : k = 7
  · subst h7; rw [insOk_7]; exact l2Ins7 a b n w
  · rw [insOk_no a b n ⟨h1, h2, h3, h4, h5, h6, h7⟩]
    exact l2InsNo k a b n w (noKindS_of h1 h2 h3 h4 h5 h6 h7)
end Go.Proofs.Ytfifiobcmdmefaa.Own

namespace Go.Proofs.Ytfifiobcmdmefaa.Own
open Go.RowKit
set_option linter.unusedVariables false
set_option linter.unusedSimpArgs false

theorem any_take_succP {xs : List P2} {k : Nat} (n : Int) (h : k < xs.length) : ((xs.take (k + 1)).any fun p => p.1 == n) = (((xs.take k).any fun p => p.1 == n) || (xs.getD k (0, 0)).1 == n) := by
  rw [List.take_succ_eq_append_getElem h, List.any_append]
  simp [List.getD, h]
theorem any_at {xs : List P2} {k : Nat} {n : Int} (h : k < xs.length) (e : ((xs.getD k (0, 0)).1 == n) = true) : (xs.any fun p => p.1 == n) = true := by
  rw [List.any_eq_true]
  exact ⟨xs.getD k (0, 0), by simp [List.getD, h], e⟩

set_option maxRecDepth 100000 in
set_option maxHeartbeats 1000000 in
theorem l3Saw (a : Option Addr) (c n : Nat) (xs : List P2) (z : Int) (w : World) (h : Sl w a xs) (hl : xs.length = n) (hn : n ≤ 2 ^ 40) :
    Calls Try.prog 162 #[.slice a n c, .int .i64 z] w fun e w' => e = .returned (.bool (xs.any fun p => p.1 == z)) ∧ w' = w := by
  subst hl
  have H1 : Hid (Sl w a xs) := h
  clear h
  go_enter Try.func162, Try.ntmps162
  go_wp2
  go_loop [5] (fun i => ∃ k : Nat, k ≤ xs.length ∧ i = .int .i64 k ∧ Hid (((xs.take k).any fun p => p.1 == z) = false)) (fun i => xs.length - (intOf i).toNat)
  case atStart => exact ⟨0, Nat.zero_le _, rfl, rfl⟩
  case round =>
    obtain ⟨k, hk, rfl, hA⟩ := hrel
    by_cases hlt : k < xs.length
    · rcases H1.out with h | ⟨b1, o1, rfl, h1⟩
      · subst h; simp at hlt
      obtain ⟨ca, cb⟩ := h1.2 k hlt
      have HT : Hid (((xs.take (k + 1)).any fun p => p.1 == z) = (((xs.take k).any fun p => p.1 == z) || (xs.getD k (0, 0)).1 == z)) := any_take_succP z hlt
      have HY : Hid (((xs.getD k (0, 0)).1 == z) = true → (xs.any fun p => p.1 == z) = true) := any_at hlt
      obtain ⟨p, hp⟩ : ∃ p, p = (xs.getD k (0, 0)).1 := ⟨_, rfl⟩
      rw [← hp] at ca
      have HP : Hid (p = (xs.getD k (0, 0)).1) := hp
      clear hp h1 cb
      cases t : (p == z) with
      | true =>
        have Y : Hid ((xs.any fun p => p.1 == z) = true) := HY.out (by rw [← HP.out]; exact t)
        clear HY HT
        go_wp2
        go_ret
        exact ⟨ret_bool Y.out.symm, rfl⟩
      | false =>
        have N : Hid (((xs.take (k + 1)).any fun p => p.1 == z) = false) := by show _ = _; rw [HT.out, hA.out, ← HP.out, t]; rfl
        clear HY HT
        go_wp2
        go_round
        case rel => exact ⟨k + 1, by omega, by go_num, N⟩
        case measure => simp [intOf]; omega
    · go_wp2
      go_ret
      have : k = xs.length := by omega
      subst this
      have h := hA.out
      rw [List.take_length] at h
      exact ⟨ret_bool h.symm, rfl⟩

/-- The place of a box among what is put, or -1. -/
def placeOf (xs : List P2) (z : Int) : Int := if (xs.any fun p => p.1 == z) then ((xs.findIdx fun p => p.1 == z) : Nat) else -1

theorem placeOf_at {xs : List P2} {k : Nat} {z : Int} (h : k < xs.length) (e : ((xs.getD k (0, 0)).1 == z) = true) (h0 : ((xs.take k).any fun p => p.1 == z) = false) : placeOf xs z = k := by
  unfold placeOf
  rw [if_pos (any_at h e)]
  have : xs.findIdx (fun p => p.1 == z) = k := by
    rw [List.findIdx_eq h]
    refine ⟨by simpa [List.getD, h] using e, fun j hj => ?_⟩
    rw [List.any_eq_false] at h0
    have := h0 (xs[j]'(by omega)) (by rw [List.mem_take_iff_getElem]; exact ⟨j, by omega, rfl⟩)
    simpa using this
  rw [this]
theorem placeOf_none {xs : List P2} {z : Int} (h : (xs.any fun p => p.1 == z) = false) : placeOf xs z = -1 := by
  simp [placeOf, h]
theorem placeOf_neg (xs : List P2) (z : Int) : decide (placeOf xs z ≥ 0) = (xs.any fun p => p.1 == z) := by
  unfold placeOf
  cases h : (xs.any fun p => p.1 == z) with
  | true => simp
  | false => simp

set_option maxRecDepth 100000 in
set_option maxHeartbeats 1000000 in
theorem l3At (a : Option Addr) (c n : Nat) (xs : List P2) (z : Int) (w : World) (h : Sl w a xs) (hl : xs.length = n) (hn : n ≤ 2 ^ 40) :
    Calls Try.prog 163 #[.slice a n c, .int .i64 z] w fun e w' => e = .returned (.int .i64 (placeOf xs z)) ∧ w' = w := by
  subst hl
  have H1 : Hid (Sl w a xs) := h
  clear h
  go_enter Try.func163, Try.ntmps163
  go_wp2
  go_loop [5] (fun i => ∃ k : Nat, k ≤ xs.length ∧ i = .int .i64 k ∧ Hid (((xs.take k).any fun p => p.1 == z) = false)) (fun i => xs.length - (intOf i).toNat)
  case atStart => exact ⟨0, Nat.zero_le _, rfl, rfl⟩
  case round =>
    obtain ⟨k, hk, rfl, hA⟩ := hrel
    by_cases hlt : k < xs.length
    · rcases H1.out with h | ⟨b1, o1, rfl, h1⟩
      · subst h; simp at hlt
      obtain ⟨ca, cb⟩ := h1.2 k hlt
      have HT : Hid (((xs.take (k + 1)).any fun p => p.1 == z) = (((xs.take k).any fun p => p.1 == z) || (xs.getD k (0, 0)).1 == z)) := any_take_succP z hlt
      have HY : Hid (((xs.getD k (0, 0)).1 == z) = true → placeOf xs z = k) := fun e => placeOf_at hlt e hA.out
      obtain ⟨p, hp⟩ : ∃ p, p = (xs.getD k (0, 0)).1 := ⟨_, rfl⟩
      rw [← hp] at ca
      have HP : Hid (p = (xs.getD k (0, 0)).1) := hp
      clear hp h1 cb
      cases t : (p == z) with
      | true =>
        have Y : Hid (placeOf xs z = k) := HY.out (by rw [← HP.out]; exact t)
        clear HY HT
        go_wp2
        go_ret
        exact ⟨ret_int Y.out.symm, rfl⟩
      | false =>
        have N : Hid (((xs.take (k + 1)).any fun p => p.1 == z) = false) := by show _ = _; rw [HT.out, hA.out, ← HP.out, t]; rfl
        clear HY HT
        go_wp2
        go_round
        case rel => exact ⟨k + 1, by omega, by go_num, N⟩
        case measure => simp [intOf]; omega
    · go_wp2
      go_ret
      have : k = xs.length := by omega
      subst this
      have h := hA.out
      rw [List.take_length] at h
      exact ⟨ret_int (placeOf_none h).symm, rfl⟩
end Go.Proofs.Ytfifiobcmdmefaa.Own

namespace Go.Proofs.Ytfifiobcmdmefaa.Own
open Go.RowKit

/-- A run under way: the registers, what it looked into, what it would put, its code. -/
structure RunSt where
  regs : List Int
  reads : List P2
  puts : List P2
  code : Int

def hasBox (ys : List P2) (j : Nat) : Bool := ys.any fun p => p.1 == (j : Int)
def idxBox (ys : List P2) (j : Nat) : Nat := ys.findIdx fun p => p.1 == (j : Int)
/-- What is in a box for a run. -/
def inBox (bs ys : List P2) (j : Nat) : Int := if hasBox ys j then (ys.getD (idxBox ys j) (0, 0)).2 else (bs.getD j (0, 0)).2
/-- What it has looked into, when it has looked there. -/
def lookR (bs xs ys : List P2) (j : Nat) : List P2 := if hasBox ys j then xs else if hasBox xs j then xs else xs ++ [((j : Int), (bs.getD j (0, 0)).1)]
/-- What it would put, when n is put there. -/
def putP (ys : List P2) (j : Nat) (n : Int) : List P2 := if hasBox ys j then ys.set (idxBox ys j) ((ys.getD (idxBox ys j) (0, 0)).1, n) else ys ++ [((j : Int), n)]

def setReg (s : RunSt) (a : Nat) (n : Int) : RunSt := { s with regs := s.regs.set a n, code := if numOk n then s.code else 2 }
/-- An instruction that is no ProgLess. -/
def stepR (bs : List P2) (s : RunSt) (p : Q4) : RunSt :=
  if p.1 = 1 then setReg { s with reads := lookR bs s.reads s.puts p.2.2.1.toNat } p.2.1.toNat (inBox bs s.puts p.2.2.1.toNat)
  else if p.1 = 2 then { s with puts := putP s.puts p.2.1.toNat (s.regs.getD p.2.2.1.toNat 0) }
  else if p.1 = 3 then setReg s p.2.1.toNat p.2.2.2
  else if p.1 = 4 then setReg s p.2.1.toNat (s.regs.getD p.2.1.toNat 0 + s.regs.getD p.2.2.1.toNat 0)
  else if p.1 = 5 then setReg s p.2.1.toNat (s.regs.getD p.2.1.toNat 0 - s.regs.getD p.2.2.1.toNat 0)
  else { s with code := 1 }
/-- A run from instruction k on. -/
def runR (bs : List P2) (xs : List Q4) (k : Nat) (s : RunSt) : RunSt :=
  if h : k < xs.length then
    if s.code = 0 then
      if (xs.getD k q0).1 = 6 then
        if s.regs.getD (xs.getD k q0).2.1.toNat 0 < s.regs.getD (xs.getD k q0).2.2.1.toNat 0 then runR bs xs (k + (xs.getD k q0).2.2.2.toNat + 1) s else runR bs xs (k + 1) s
      else runR bs xs (k + 1) (stepR bs s (xs.getD k q0))
    else s
  else s
termination_by xs.length - k

structure RunOut where
  reads : List P2
  puts : List P2
  val : Int
  code : Int
def outR (s : RunSt) : RunOut := if s.code = 0 then ⟨s.reads, s.puts, s.regs.getD 0 0, 0⟩ else ⟨s.reads, [], 0, s.code⟩
def initR : RunSt := ⟨[0, 0, 0, 0], [], [], 0⟩
/-- What a run says. -/
def execRun (bs : List P2) (xs : List Q4) : RunOut := if boxOk bs && progOk xs then outR (runR bs xs 0 initR) else ⟨[], [], 0, 3⟩

theorem place_idx (ys : List P2) (j : Nat) (h : hasBox ys j = true) : placeOf ys (j : Int) = ((idxBox ys j : Nat) : Int) ∧ idxBox ys j < ys.length := by
  refine ⟨if_pos h, ?_⟩
  unfold hasBox at h
  rw [List.any_eq_true] at h
  obtain ⟨x, hx, hp⟩ := h
  exact List.findIdx_lt_length_of_exists ⟨x, hx, hp⟩
theorem place_no (ys : List P2) (j : Nat) (h : hasBox ys j = false) : placeOf ys (j : Int) = -1 := placeOf_none h
end Go.Proofs.Ytfifiobcmdmefaa.Own
