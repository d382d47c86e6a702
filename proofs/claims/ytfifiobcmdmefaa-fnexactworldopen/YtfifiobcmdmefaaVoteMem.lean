/-
  Own text: votes in memory, eight cells each, two of them slices. Nothing of the program.
-/
import Derived.Test.YtfifiobcmdmefaaRunOps
import Derived.Test.YtfifiobcmdmefaaBlk
import Derived.Test.YtfifiobcmdmefaaTurned
namespace Go.Proofs.Ytfifiobcmdmefaa.Own
open Go.RowKit
set_option linter.unusedVariables false

/-- What an entry says: whether there is none; of whom; which; looked at; put; value; code. -/
structure EB where
  n : Bool
  p : Int
  q : Int
  xs : List P2
  ys : List P2
  v : Int
  k : Int
def e0 : EB := ⟨false, 0, 0, [], [], 0, 0⟩
/-- A vote: its ballot and its entry. -/
abbrev V := Int × EB
/-- A vote in memory: what it says, and where its two lists lie. -/
structure VM where
  bal : Int
  b : EB
  a1 : Option Addr
  c1 : Nat
  a2 : Option Addr
  c2 : Nat
def v0 : VM := ⟨0, e0, none, 0, none, 0⟩
instance : Inhabited VM := ⟨v0⟩
def VM.body (x : VM) : V := (x.bal, x.b)
def VM.cells (x : VM) : Array Value := #[.int .i64 x.bal, .bool x.b.n, .int .i64 x.b.p, .int .i64 x.b.q, .slice x.a1 x.b.xs.length x.c1, .slice x.a2 x.b.ys.length x.c2, .int .i64 x.b.v, .int .i64 x.b.k]
def bodies (vs : List VM) : List V := vs.map VM.body
theorem bodies_len (vs : List VM) : (bodies vs).length = vs.length := by simp [bodies]
theorem bodies_getD (vs : List VM) (i : Nat) : (bodies vs).getD i (0, e0) = (vs.getD i v0).body := by
  unfold bodies
  by_cases h : i < vs.length
  · simp [List.getD, h]
  · simp [List.getD, h, v0, VM.body]
theorem bodies_eq {vs us : List VM} (h : bodies vs = bodies us) : vs.length = us.length ∧ ∀ i, (vs.getD i v0).body = (us.getD i v0).body :=
  ⟨by rw [← bodies_len, h, bodies_len], fun i => by rw [← bodies_getD, h, bodies_getD]⟩
theorem body_eq {x y : VM} (h : x.body = y.body) : x.bal = y.bal ∧ x.b = y.b := by
  unfold VM.body at h
  injection h with h1 h2
  exact ⟨h1, h2⟩

/-- A vote's eight cells, and its two lists. -/
def VC (w : World) (b o : Nat) (x : VM) : Prop :=
  (w.cell? ⟨b, o, none⟩ = some (.int .i64 x.bal) ∧ w.cell? ⟨b, o + 1, none⟩ = some (.bool x.b.n) ∧ w.cell? ⟨b, o + 2, none⟩ = some (.int .i64 x.b.p) ∧ w.cell? ⟨b, o + 3, none⟩ = some (.int .i64 x.b.q) ∧ w.cell? ⟨b, o + 4, none⟩ = some (.slice x.a1 x.b.xs.length x.c1) ∧ w.cell? ⟨b, o + 5, none⟩ = some (.slice x.a2 x.b.ys.length x.c2) ∧ w.cell? ⟨b, o + 6, none⟩ = some (.int .i64 x.b.v) ∧ w.cell? ⟨b, o + 7, none⟩ = some (.int .i64 x.b.k)) ∧ Sl w x.a1 x.b.xs ∧ Sl w x.a2 x.b.ys
theorem VC.below {w w' : World} {b o : Nat} {x : VM} (h : VC w b o x) (hlt : b < w.heap.size) (hb : Below w.heap.size w w') : VC w' b o x := by
  obtain ⟨h1, h2, h3⟩ := h
  have e := fun o => hb.cell (p := ⟨b, o, none⟩) hlt
  exact ⟨by rw [e, e, e, e, e, e, e, e]; exact h1, h2.below hb, h3.below hb⟩
/-- Votes in memory, one behind the other. -/
def VAt (w : World) (b off : Nat) (vs : List VM) : Prop := b < w.heap.size ∧ ∀ i, i < vs.length → VC w b (off + i * 8) (vs.getD i v0)
theorem VAt.below {w w' : World} {b off : Nat} {vs : List VM} (h : VAt w b off vs) (hb : Below w.heap.size w w') : VAt w' b off vs :=
  ⟨Nat.lt_of_lt_of_le h.1 hb.size, fun i hi => (h.2 i hi).below h.1 hb⟩
/-- What a slice of votes leads to. -/
def SlV (w : World) (a : Option Addr) (vs : List VM) : Prop := vs = [] ∨ ∃ b off, a = some ⟨b, off, none⟩ ∧ VAt w b off vs
theorem SlV.below {w w' : World} {a : Option Addr} {vs : List VM} (h : SlV w a vs) (hb : Below w.heap.size w w') : SlV w' a vs := by
  rcases h with h | ⟨b, off, rfl, h⟩
  · exact .inl h
  · exact .inr ⟨b, off, rfl, h.below hb⟩
/-- The lists of a vote are of a length that the walks take. -/
def VL (x : VM) : Prop := x.b.xs.length ≤ 2 ^ 40 ∧ x.b.ys.length ≤ 2 ^ 40 ∧ x.b.xs.length ≤ x.c1 ∧ x.b.ys.length ≤ x.c2
def VLs (vs : List VM) : Prop := ∀ i, i < vs.length → VL (vs.getD i v0)
/-- So many boxes the first k votes have looked at and put. -/
def sumV (vs : List VM) : Nat → Nat
  | 0 => 0
  | k + 1 => sumV vs k + ((vs.getD k v0).b.xs.length + (vs.getD k v0).b.ys.length)
theorem sumV_mono (vs : List VM) {i k : Nat} (h : i ≤ k) : sumV vs i ≤ sumV vs k := by
  induction k with
  | zero => obtain rfl : i = 0 := by omega
            exact Nat.le_refl _
  | succ k ih =>
    by_cases e : i = k + 1
    · subst e; exact Nat.le_refl _
    · have := ih (by omega); simp only [sumV]; omega
theorem sumV_at (vs : List VM) {i k : Nat} (h : i < k) : (vs.getD i v0).b.xs.length + (vs.getD i v0).b.ys.length ≤ sumV vs k := by
  have := sumV_mono vs (show i + 1 ≤ k by omega)
  simp only [sumV] at this
  omega

theorem snoc_lt {α : Type} (l : List α) (x d : α) {i : Nat} (h : i < l.length) : (l ++ [x]).getD i d = l.getD i d := by simp [List.getD, List.getElem?_append_left h]
theorem snoc_eq {α : Type} (l : List α) (x d : α) : (l ++ [x]).getD l.length d = x := by simp [List.getD]
theorem snoc_eq' {α : Type} (l : List α) (x d : α) {i : Nat} (h : i = l.length) : (l ++ [x]).getD i d = x := by rw [h]; exact snoc_eq _ _ _

theorem Blk.cells8 {w : World} {b : Nat} {x0 x1 x2 x3 x4 x5 x6 x7 : Value} {t : TypeId} (h : Blk w b #[x0, x1, x2, x3, x4, x5, x6, x7] t) : w.cell? ⟨b, 0, none⟩ = some x0 ∧ w.cell? ⟨b, 1, none⟩ = some x1 ∧ w.cell? ⟨b, 2, none⟩ = some x2 ∧ w.cell? ⟨b, 3, none⟩ = some x3 ∧ w.cell? ⟨b, 4, none⟩ = some x4 ∧ w.cell? ⟨b, 5, none⟩ = some x5 ∧ w.cell? ⟨b, 6, none⟩ = some x6 ∧ w.cell? ⟨b, 7, none⟩ = some x7 :=
  ⟨by rw [h.cell]; rfl, by rw [h.cell]; rfl, by rw [h.cell]; rfl, by rw [h.cell]; rfl, by rw [h.cell]; rfl, by rw [h.cell]; rfl, by rw [h.cell]; rfl, by rw [h.cell]; rfl⟩
/-- A row of n votes of one's own. -/
def RowV (w : World) (b n : Nat) : Prop := ∃ C t, w.heap[b]? = some (.cells C t (0, 0)) ∧ C.size = n * 8 ∧ ∀ v ∈ C, v.oneCell' = true
theorem RowV.setCell {w : World} {b n : Nat} (h : RowV w b n) (o : Nat) (v : Value) (hv : v.oneCell' = true) : RowV (w.setCell ⟨b, o, none⟩ v) b n := by
  obtain ⟨C, t, h1, h2, h3⟩ := h
  refine ⟨C.setIfInBounds o v, t, ?_, by simpa using h2, ?_⟩
  · simp [World.setCell, Array.getElem?_modify, h1]
  · intro u hu
    rcases Array.mem_or_eq_of_mem_setIfInBounds hu with h | h
    · exact h3 u h
    · rw [h]; exact hv
theorem RowV.cell {w : World} {b n : Nat} (h : RowV w b n) (o : Nat) (ho : o < n * 8) : ∃ v, w.cell? ⟨b, o, none⟩ = some v ∧ v.oneCell' = true := by
  obtain ⟨C, t, h1, h2, h3⟩ := h
  rw [cell_heap h1]
  exact ⟨C[o]'(by omega), by simp, h3 _ (by simp)⟩
theorem RowV.frozen {w : World} {b n : Nat} (h : RowV w b n) (o : Nat) : w.frozen? ⟨b, o, none⟩ = false := by
  obtain ⟨C, t, h1, _⟩ := h
  exact frozen_heap h1 o
theorem RowV.lt {w : World} {b n : Nat} (h : RowV w b n) : b < w.heap.size := by
  obtain ⟨C, t, h1, _⟩ := h
  exact (Array.getElem?_eq_some_iff.1 h1).1
theorem RowV.block {w w' : World} {b n : Nat} (h : RowV w b n) (hb : w'.heap[b]? = w.heap[b]?) : RowV w' b n := by
  obtain ⟨C, t, h1, h2⟩ := h
  exact ⟨C, t, by rw [hb]; exact h1, h2⟩
theorem RowV.below {w w' : World} {b n B : Nat} (h : RowV w b n) (hb : Below B w w') (hB : b < B) : RowV w' b n := h.block (hb.block _ hB)

/-- Eight cells of one block, stored one behind the other: what lies there then. -/
def set8 (w : World) (b o : Nat) (x : VM) : World := (((((((w.setCell ⟨b, o, none⟩ (.int .i64 x.bal)).setCell ⟨b, o + 1, none⟩ (.bool x.b.n)).setCell ⟨b, o + 2, none⟩ (.int .i64 x.b.p)).setCell ⟨b, o + 3, none⟩ (.int .i64 x.b.q)).setCell ⟨b, o + 4, none⟩ (.slice x.a1 x.b.xs.length x.c1)).setCell ⟨b, o + 5, none⟩ (.slice x.a2 x.b.ys.length x.c2)).setCell ⟨b, o + 6, none⟩ (.int .i64 x.b.v)).setCell ⟨b, o + 7, none⟩ (.int .i64 x.b.k)
theorem set8_size (w : World) (b o : Nat) (x : VM) : (set8 w b o x).heap.size = w.heap.size := by simp [set8, World.setCell]
theorem set8_turned (w : World) (b o : Nat) (x : VM) : Turned [b] w (set8 w b o x) := by
  have S : ∀ (u : World) (o' : Nat) (v : Value), Turned [b] u (u.setCell ⟨b, o', none⟩ v) := fun u o' v => ⟨rfl, rfl, rfl, by simp [World.setCell], fun k _ hn => Below.heap_setCell _ _ _ _ (by simpa using hn)⟩
  unfold set8
  exact (((((((S _ _ _).trans (S _ _ _)).trans (S _ _ _)).trans (S _ _ _)).trans (S _ _ _)).trans (S _ _ _)).trans (S _ _ _)).trans (S _ _ _)
theorem set8_row {w : World} {b n : Nat} (h : RowV w b n) (o : Nat) (x : VM) : RowV (set8 w b o x) b n := by
  unfold set8
  exact (((((((h.setCell _ _ rfl).setCell _ _ rfl).setCell _ _ rfl).setCell _ _ rfl).setCell _ _ rfl).setCell _ _ rfl).setCell _ _ rfl).setCell _ _ rfl
theorem set8_below {w a : World} {B b : Nat} (h : Below B a w) (hB : B ≤ b) (o : Nat) (x : VM) : Below B a (set8 w b o x) := by
  unfold set8
  exact (((((((h.setCell hB _).setCell hB _).setCell hB _).setCell hB _).setCell hB _).setCell hB _).setCell hB _).setCell hB _
theorem set8_cells {w : World} {b n : Nat} (h : RowV w b n) (i : Nat) (hi : i < n) (x : VM) :
    ((set8 w b (i * 8) x).cell? ⟨b, i * 8, none⟩ = some (.int .i64 x.bal) ∧ (set8 w b (i * 8) x).cell? ⟨b, i * 8 + 1, none⟩ = some (.bool x.b.n) ∧ (set8 w b (i * 8) x).cell? ⟨b, i * 8 + 2, none⟩ = some (.int .i64 x.b.p) ∧ (set8 w b (i * 8) x).cell? ⟨b, i * 8 + 3, none⟩ = some (.int .i64 x.b.q) ∧ (set8 w b (i * 8) x).cell? ⟨b, i * 8 + 4, none⟩ = some (.slice x.a1 x.b.xs.length x.c1) ∧ (set8 w b (i * 8) x).cell? ⟨b, i * 8 + 5, none⟩ = some (.slice x.a2 x.b.ys.length x.c2) ∧ (set8 w b (i * 8) x).cell? ⟨b, i * 8 + 6, none⟩ = some (.int .i64 x.b.v) ∧ (set8 w b (i * 8) x).cell? ⟨b, i * 8 + 7, none⟩ = some (.int .i64 x.b.k)) ∧ ∀ o, (o < i * 8 ∨ i * 8 + 8 ≤ o) → (set8 w b (i * 8) x).cell? ⟨b, o, none⟩ = w.cell? ⟨b, o, none⟩ := by
  obtain ⟨C, t, h1, h2, h3⟩ := h
  have hs : ∀ (u : World) (D : Array Value) (o : Nat) (v : Value), u.heap[b]? = some (.cells D t (0, 0)) → (u.setCell ⟨b, o, none⟩ v).heap[b]? = some (.cells (D.setIfInBounds o v) t (0, 0)) := fun u D o v h => by simp [World.setCell, Array.getElem?_modify, h]
  have H := hs _ _ (i * 8 + 7) (.int .i64 x.b.k) (hs _ _ (i * 8 + 6) (.int .i64 x.b.v) (hs _ _ (i * 8 + 5) (.slice x.a2 x.b.ys.length x.c2) (hs _ _ (i * 8 + 4) (.slice x.a1 x.b.xs.length x.c1) (hs _ _ (i * 8 + 3) (.int .i64 x.b.q) (hs _ _ (i * 8 + 2) (.int .i64 x.b.p) (hs _ _ (i * 8 + 1) (.bool x.b.n) (hs _ _ (i * 8) (.int .i64 x.bal) h1)))))))
  have H' : (set8 w b (i * 8) x).heap[b]? = _ := H
  clear H hs
  have sz : i * 8 + 7 < C.size := by omega
  have K : ∀ o, (set8 w b (i * 8) x).cell? ⟨b, o, none⟩ = _ := fun o => cell_heap H' o
  have K0 : ∀ o, w.cell? ⟨b, o, none⟩ = _ := fun o => cell_heap h1 o
  clear H'
  refine ⟨⟨?_, ?_, ?_, ?_, ?_, ?_, ?_, ?_⟩, fun o ho => ?_⟩
  all_goals rw [K]
  case refine_9 => rw [K0]; simp only [Array.getElem?_setIfInBounds]; repeat (rw [if_neg (by omega)])
  all_goals
    simp only [Array.getElem?_setIfInBounds, Array.size_setIfInBounds]
    repeat (rw [if_neg (by omega)])
    rw [if_pos trivial, if_pos (by omega)]

/-- Where a copied vote lies. -/
def vmOf (g : Nat × Nat) (x : V) : VM := ⟨x.1, x.2, some ⟨g.1, 0, none⟩, x.2.xs.length, some ⟨g.2, 0, none⟩, x.2.ys.length⟩
theorem vmOf_body (g : Nat × Nat) (x : V) : (vmOf g x).body = x := rfl
/-- Votes in memory of their own: the list in block b, the lists of vote i in the blocks gs i. -/
structure CopyV (w : World) (b : Nat) (gs : List (Nat × Nat)) (bs : List V) : Prop where
  len : gs.length = bs.length
  lt : b < w.heap.size
  cell : ∀ i, i < bs.length → VC w b (i * 8) (vmOf (gs.getD i (0, 0)) (bs.getD i (0, e0)))
  own : ∀ i, i < bs.length → RunOwn w (b + 1) (gs.getD i (0, 0)).1 (gs.getD i (0, 0)).2 (bs.getD i (0, e0)).2.xs (bs.getD i (0, e0)).2.ys
  asc : ∀ i j, i < j → j < bs.length → ∀ g, g = (gs.getD i (0, 0)).1 ∨ g = (gs.getD i (0, 0)).2 → g < (gs.getD j (0, 0)).1 ∧ g < (gs.getD j (0, 0)).2
theorem CopyV.below {w w' : World} {b : Nat} {gs : List (Nat × Nat)} {bs : List V} (h : CopyV w b gs bs) (hb : Below w.heap.size w w') : CopyV w' b gs bs :=
  ⟨h.len, Nat.lt_of_lt_of_le h.lt hb.size, fun i hi => (h.cell i hi).below h.lt hb, fun i hi => (h.own i hi).below hb, h.asc⟩
theorem CopyV.nil {w : World} {b : Nat} (h : b < w.heap.size) : CopyV w b [] [] :=
  ⟨rfl, h, fun i hi => by simp at hi, fun i hi => by simp at hi, fun i j _ hj => by simp at hj⟩
def vmsOf (gs : List (Nat × Nat)) (bs : List V) : List VM := (List.range bs.length).map fun i => vmOf (gs.getD i (0, 0)) (bs.getD i (0, e0))
theorem vmsOf_len (gs : List (Nat × Nat)) (bs : List V) : (vmsOf gs bs).length = bs.length := by simp [vmsOf]
theorem vmsOf_at (gs : List (Nat × Nat)) (bs : List V) {i : Nat} (hi : i < bs.length) : (vmsOf gs bs).getD i v0 = vmOf (gs.getD i (0, 0)) (bs.getD i (0, e0)) := by simp [vmsOf, List.getD, hi]
theorem vmsOf_bodies (gs : List (Nat × Nat)) (bs : List V) : bodies (vmsOf gs bs) = bs := by
  unfold bodies vmsOf
  rw [List.map_map]
  apply List.ext_getElem
  · simp
  · intro i h1 h2
    simp at h1
    simp [List.getD, h1, vmOf, VM.body]
theorem CopyV.sl {w : World} {b : Nat} {gs : List (Nat × Nat)} {bs : List V} (h : CopyV w b gs bs) : SlV w (some ⟨b, 0, none⟩) (vmsOf gs bs) :=
  .inr ⟨b, 0, rfl, h.lt, fun i hi => by
    rw [vmsOf_len] at hi
    rw [vmsOf_at gs bs hi, Nat.zero_add]
    exact h.cell i hi⟩
theorem CopyV.vls {gs : List (Nat × Nat)} {bs : List V} (h : ∀ i, i < bs.length → (bs.getD i (0, e0)).2.xs.length ≤ 2 ^ 40 ∧ (bs.getD i (0, e0)).2.ys.length ≤ 2 ^ 40) : VLs (vmsOf gs bs) := fun i hi => by
  rw [vmsOf_len] at hi
  rw [vmsOf_at gs bs hi]
  exact ⟨(h i hi).1, (h i hi).2, Nat.le_refl _, Nat.le_refl _⟩

theorem Sl.turnedN {L : List Nat} {w w' : World} {a : Option Addr} {xs : List P2} (h : Sl w a xs) (ht : Turned L w w') (hL : xs = [] ∨ ∀ x, a = some x → x.block ∉ L) : Sl w' a xs := by
  rcases h with h | ⟨b, off, rfl, h⟩
  · exact .inl h
  rcases hL with h' | hL
  · exact .inl h'
  · exact .inr ⟨b, off, rfl, h.block ht.size (ht.block b h.1 (hL _ rfl))⟩
theorem RunOwn.turnedN {L : List Nat} {w w' : World} {B g1 g2 : Nat} {xs ys : List P2} (h : RunOwn w B g1 g2 xs ys) (ht : Turned L w w') (h1 : g1 ∉ L) (h2 : g2 ∉ L) : RunOwn w' B g1 g2 xs ys := by
  obtain ⟨o1, o2, o3, o4, o5, o6, o7⟩ := h
  have e1 := ht.block g1 o4.1 h1
  have e2 := ht.block g2 o5.1 h2
  exact ⟨o1, o2, o3, o4.block ht.size e1, o5.block ht.size e2, o6.block e1, o7.block e2⟩

/-- One vote more has been copied. -/
theorem CopyV.snoc {w w1 : World} {b n g1 g2 : Nat} {gs : List (Nat × Nat)} {bs : List V} {x : V} (h : CopyV w b gs bs) (hb : Below w.heap.size w w1) (ho : RunOwn w1 w.heap.size g1 g2 x.2.xs x.2.ys) (hr : RowV w1 b n) (hn : bs.length < n) :
    CopyV (set8 w1 b (bs.length * 8) (vmOf (g1, g2) x)) b (gs ++ [(g1, g2)]) (bs ++ [x]) := by
  have h1 := h.below hb
  have hl := h.len
  have h0 := h.lt
  have T := set8_turned w1 b (bs.length * 8) (vmOf (g1, g2) x)
  have P := set8_cells hr bs.length hn (vmOf (g1, g2) x)
  have elim : ∀ i, i < (bs ++ [x]).length → i < bs.length ∨ i = bs.length := fun i hi => by simp at hi; omega
  have n1 : g1 ∉ [b] := by have := ho.1; simp only [List.mem_singleton]; omega
  have n2 : g2 ∉ [b] := by have := ho.2.1; simp only [List.mem_singleton]; omega
  have OX := ho.turnedN T n1 n2
  have lo : ∀ i, i < bs.length → (gs.getD i (0, 0)).1 ∉ [b] ∧ (gs.getD i (0, 0)).2 ∉ [b] := fun i hi => by
    have := (h.own i hi).1
    have := (h.own i hi).2.1
    constructor <;> simp only [List.mem_singleton] <;> omega
  refine ⟨by simp [hl], by rw [set8_size]; exact h1.lt, fun i hi => ?_, fun i hi => ?_, fun i j hij hj => ?_⟩
  · rcases elim i hi with h' | h'
    · rw [snoc_lt _ _ _ h', snoc_lt _ _ _ (by omega)]
      obtain ⟨c, s1, s2⟩ := h1.cell i h'
      have e := fun o (ho : o < bs.length * 8) => P.2 o (.inl ho)
      refine ⟨?_, s1.turnedN T (.inr fun y hy => ?_), s2.turnedN T (.inr fun y hy => ?_)⟩
      · rw [e _ (by omega), e _ (by omega), e _ (by omega), e _ (by omega), e _ (by omega), e _ (by omega), e _ (by omega), e _ (by omega)]; exact c
      · simp only [vmOf, Option.some.injEq] at hy; rw [← hy]; exact (lo i h').1
      · simp only [vmOf, Option.some.injEq] at hy; rw [← hy]; exact (lo i h').2
    · subst h'
      rw [snoc_eq, snoc_eq' gs _ _ hl.symm]
      exact ⟨P.1, .inr ⟨_, _, rfl, OX.2.2.2.1⟩, .inr ⟨_, _, rfl, OX.2.2.2.2.1⟩⟩
  · rcases elim i hi with h' | h'
    · rw [snoc_lt _ _ _ h', snoc_lt _ _ _ (by omega)]
      exact (h1.own i h').turnedN T (lo i h').1 (lo i h').2
    · subst h'
      rw [snoc_eq, snoc_eq' gs _ _ hl.symm]
      exact ⟨by have := OX.1; show b + 1 ≤ g1; omega, by have := OX.2.1; show b + 1 ≤ g2; omega, OX.2.2⟩
  · rcases elim j hj with h' | h'
    · rw [snoc_lt _ _ _ (by omega), snoc_lt _ _ _ (by omega)]; exact h.asc i j hij h'
    · subst h'
      rw [snoc_lt _ _ _ (by omega), snoc_eq' gs _ _ hl.symm]
      have a1 := (h.own i hij).2.2.2.1.1
      have a2 := (h.own i hij).2.2.2.2.1.1
      have := ho.1
      have := ho.2.1
      intro g hg
      rcases hg with rfl | rfl
      · exact ⟨by show _ < g1; omega, by show _ < g2; omega⟩
      · exact ⟨by show _ < g1; omega, by show _ < g2; omega⟩
end Go.Proofs.Ytfifiobcmdmefaa.Own
