/-
  Own texts, bundled: VoteMem, EntText, EntOps, VoteOps.
-/
import Derived.Test.YtildonpdmmliaaaGreatDoorPk2
import Derived.Test.YtildonpdmmliaaaGreatDoorPk1
import Derived.BigQuiet
import Derived.Lib.QuietBelow
namespace Go.Proofs.YtildonpdmmliaaaGreatDoor.Own
open Go.RowKit
set_option linter.unusedVariables false

/-- What an entry says: whether there is none; of whom; which; looked at; put; value; code. -/
structure EB where
  n : Bool
  p : Int
  q : Int
  xs : List P2
  ys : List P2
  v : Int
  k : Int
def e0 : EB := ⟨false, 0, 0, [], [], 0, 0⟩
/-- A vote: its ballot and its entry. -/
abbrev V := Int × EB
/-- A vote in memory: what it says, and where its two lists lie. -/
structure VM where
  bal : Int
  b : EB
  a1 : Option Addr
  c1 : Nat
  a2 : Option Addr
  c2 : Nat
def v0 : VM := ⟨0, e0, none, 0, none, 0⟩
instance : Inhabited VM := ⟨v0⟩
def VM.body (x : VM) : V := (x.bal, x.b)
def VM.cells (x : VM) : Array Value := #[.int .i64 x.bal, .bool x.b.n, .int .i64 x.b.p, .int .i64 x.b.q, .slice x.a1 x.b.xs.length x.c1, .slice x.a2 x.b.ys.length x.c2, .int .i64 x.b.v, .int .i64 x.b.k]
def bodies (vs : List VM) : List V := vs.map VM.body
theorem bodies_len (vs : List VM) : (bodies vs).length = vs.length := by simp [bodies]
theorem bodies_getD (vs : List VM) (i : Nat) : (bodies vs).getD i (0, e0) = (vs.getD i v0).body := by
  unfold bodies
  by_cases h : i < vs.length
  · simp [List.getD, h]
  · simp [List.getD, h, v0, VM.body]
theorem bodies_eq {vs us : List VM} (h : bodies vs = bodies us) : vs.length = us.length ∧ ∀ i, (vs.getD i v0).body = (us.getD i v0).body :=
  ⟨by rw [← bodies_len, h, bodies_len], fun i => by rw [← bodies_getD, h, bodies_getD]⟩
theorem body_eq {x y : VM} (h : x.body = y.body) : x.bal = y.bal ∧ x.b = y.b := by
  unfold VM.body at h
  injection h with h1 h2
  exact ⟨h1, h2⟩

/-- A vote's eight cells, and its two lists. -/
def VC (w : World) (b o : Nat) (x : VM) : Prop :=
  (w.cell? ⟨b, o, none⟩ = some (.int .i64 x.bal) ∧ w.cell? ⟨b, o + 1, none⟩ = some (.bool x.b.n) ∧ w.cell? ⟨b, o + 2, none⟩ = some (.int .i64 x.b.p) ∧ w.cell? ⟨b, o + 3, none⟩ = some (.int .i64 x.b.q) ∧ w.cell? ⟨b, o + 4, none⟩ = some (.slice x.a1 x.b.xs.length x.c1) ∧ w.cell? ⟨b, o + 5, none⟩ = some (.slice x.a2 x.b.ys.length x.c2) ∧ w.cell? ⟨b, o + 6, none⟩ = some (.int .i64 x.b.v) ∧ w.cell? ⟨b, o + 7, none⟩ = some (.int .i64 x.b.k)) ∧ Sl w x.a1 x.b.xs ∧ Sl w x.a2 x.b.ys
theorem VC.below {w w' : World} {b o : Nat} {x : VM} (h : VC w b o x) (hlt : b < w.heap.size) (hb : Below w.heap.size w w') : VC w' b o x := by
  obtain ⟨h1, h2, h3⟩ := h
  have e := fun o => hb.cell (p := ⟨b, o, none⟩) hlt
  exact ⟨by rw [e, e, e, e, e, e, e, e]; exact h1, h2.below hb, h3.below hb⟩
/-- Votes in memory, one behind the other. -/
def VAt (w : World) (b off : Nat) (vs : List VM) : Prop := b < w.heap.size ∧ ∀ i, i < vs.length → VC w b (off + i * 8) (vs.getD i v0)
theorem VAt.below {w w' : World} {b off : Nat} {vs : List VM} (h : VAt w b off vs) (hb : Below w.heap.size w w') : VAt w' b off vs :=
  ⟨Nat.lt_of_lt_of_le h.1 hb.size, fun i hi => (h.2 i hi).below h.1 hb⟩
/-- What a slice of votes leads to. -/
def SlV (w : World) (a : Option Addr) (vs : List VM) : Prop := vs = [] ∨ ∃ b off, a = some ⟨b, off, none⟩ ∧ VAt w b off vs
theorem SlV.below {w w' : World} {a : Option Addr} {vs : List VM} (h : SlV w a vs) (hb : Below w.heap.size w w') : SlV w' a vs := by
  rcases h with h | ⟨b, off, rfl, h⟩
  · exact .inl h
  · exact .inr ⟨b, off, rfl, h.below hb⟩
/-- The lists of a vote are of a length that the walks take. -/
def VL (x : VM) : Prop := x.b.xs.length ≤ 2 ^ 40 ∧ x.b.ys.length ≤ 2 ^ 40 ∧ x.b.xs.length ≤ x.c1 ∧ x.b.ys.length ≤ x.c2
def VLs (vs : List VM) : Prop := ∀ i, i < vs.length → VL (vs.getD i v0)
/-- So many boxes the first k votes have looked at and put. -/
def sumV (vs : List VM) : Nat → Nat
  | 0 => 0
  | k + 1 => sumV vs k + ((vs.getD k v0).b.xs.length + (vs.getD k v0).b.ys.length)
theorem sumV_mono (vs : List VM) {i k : Nat} (h : i ≤ k) : sumV vs i ≤ sumV vs k := by
  induction k with
  | zero => obtain rfl : i = 0 := by omega
            exact Nat.le_refl _
  | succ k ih =>
    by_cases e : i = k + 1
    · subst e; exact Nat.le_refl _
    · have := ih (by omega); simp only [sumV]; omega
theorem sumV_at (vs : List VM) {i k : Nat} (h : i < k) : (vs.getD i v0).b.xs.length + (vs.getD i v0).b.ys.length ≤ sumV vs k := by
  have := sumV_mono vs (show i + 1 ≤ k by omega)
  simp only [sumV] at this
  omega

theorem snoc_lt {α : Type} (l : List α) (x d : α) {i : Nat} (h : i < l.length) : (l ++ [x]).getD i d = l.getD i d := by simp [List.getD, List.getElem?_append_left h]
theorem snoc_eq {α : Type} (l : List α) (x d : α) : (l ++ [x]).getD l.length d = x := by simp [List.getD]
theorem snoc_eq' {α : Type} (l : List α) (x d : α) {i : Nat} (h : i = l.length) : (l ++ [x]).getD i d = x := by rw [h]; exact snoc_eq _ _ _

theorem Blk.cells8 {w : World} {b : Nat} {x0 x1 x2 x3 x4 x5 x6 x7 : Value} {t : TypeId} (h : Blk w b #[x0, x1, x2, x3, x4, x5, x6, x7] t) : w.cell? ⟨b, 0, none⟩ = some x0 ∧ w.cell? ⟨b, 1, none⟩ = some x1 ∧ w.cell? ⟨b, 2, none⟩ = some x2 ∧ w.cell? ⟨b, 3, none⟩ = some x3 ∧ w.cell? ⟨b, 4, none⟩ = some x4 ∧ w.cell? ⟨b, 5, none⟩ = some x5 ∧ w.cell? ⟨b, 6, none⟩ = some x6 ∧ w.cell? ⟨b, 7, none⟩ = some x7 :=
  ⟨by rw [h.cell]; rfl, by rw [h.cell]; rfl, by rw [h.cell]; rfl, by rw [h.cell]; rfl, by rw [h.cell]; rfl, by rw [h.cell]; rfl, by rw [h.cell]; rfl, by rw [h.cell]; rfl⟩
/-- A row of n votes of one's own. -/
def RowV (w : World) (b n : Nat) : Prop := ∃ C t, w.heap[b]? = some (.cells C t (0, 0)) ∧ C.size = n * 8 ∧ ∀ v ∈ C, v.oneCell' = true
theorem RowV.setCell {w : World} {b n : Nat} (h : RowV w b n) (o : Nat) (v : Value) (hv : v.oneCell' = true) : RowV (w.setCell ⟨b, o, none⟩ v) b n := by
  obtain ⟨C, t, h1, h2, h3⟩ := h
  refine ⟨C.setIfInBounds o v, t, ?_, by simpa using h2, ?_⟩
  · simp [World.setCell, Array.getElem?_modify, h1]
  · intro u hu
    rcases Array.mem_or_eq_of_mem_setIfInBounds hu with h | h
    · exact h3 u h
    · rw [h]; exact hv
theorem RowV.cell {w : World} {b n : Nat} (h : RowV w b n) (o : Nat) (ho : o < n * 8) : ∃ v, w.cell? ⟨b, o, none⟩ = some v ∧ v.oneCell' = true := by
  obtain ⟨C, t, h1, h2, h3⟩ := h
  rw [cell_heap h1]
  exact ⟨C[o]'(by omega), by simp, h3 _ (by simp)⟩
theorem RowV.frozen {w : World} {b n : Nat} (h : RowV w b n) (o : Nat) : w.frozen? ⟨b, o, none⟩ = false := by
  obtain ⟨C, t, h1, _⟩ := h
  exact frozen_heap h1 o
theorem RowV.lt {w : World} {b n : Nat} (h : RowV w b n) : b < w.heap.size := by
  obtain ⟨C, t, h1, _⟩ := h
  exact (Array.getElem?_eq_some_iff.1 h1).1
theorem RowV.block {w w' : World} {b n : Nat} (h : RowV w b n) (hb : w'.heap[b]? = w.heap[b]?) : RowV w' b n := by
  obtain ⟨C, t, h1, h2⟩ := h
  exact ⟨C, t, by rw [hb]; exact h1, h2⟩
theorem RowV.below {w w' : World} {b n B : Nat} (h : RowV w b n) (hb : Below B w w') (hB : b < B) : RowV w' b n := h.block (hb.block _ hB)

/-- Eight cells of one block, stored one behind the other: what lies there then. -/
def set8 (w : World) (b o : Nat) (x : VM) : World := (((((((w.setCell ⟨b, o, none⟩ (.int .i64 x.bal)).setCell ⟨b, o + 1, none⟩ (.bool x.b.n)).setCell ⟨b, o + 2, none⟩ (.int .i64 x.b.p)).setCell ⟨b, o + 3, none⟩ (.int .i64 x.b.q)).setCell ⟨b, o + 4, none⟩ (.slice x.a1 x.b.xs.length x.c1)).setCell ⟨b, o + 5, none⟩ (.slice x.a2 x.b.ys.length x.c2)).setCell ⟨b, o + 6, none⟩ (.int .i64 x.b.v)).setCell ⟨b, o + 7, none⟩ (.int .i64 x.b.k)
theorem set8_size (w : World) (b o : Nat) (x : VM) : (set8 w b o x).heap.size = w.heap.size := by simp [set8, World.setCell]
theorem set8_turned (w : World) (b o : Nat) (x : VM) : Turned [b] w (set8 w b o x) := by
  have S : ∀ (u : World) (o' : Nat) (v : Value), Turned [b] u (u.setCell ⟨b, o', none⟩ v) := fun u o' v => ⟨rfl, rfl, rfl, by simp [World.setCell], fun k _ hn => Below.heap_setCell _ _ _ _ (by simpa using hn)⟩
  unfold set8
  exact (((((((S _ _ _).trans (S _ _ _)).trans (S _ _ _)).trans (S _ _ _)).trans (S _ _ _)).trans (S _ _ _)).trans (S _ _ _)).trans (S _ _ _)
theorem set8_row {w : World} {b n : Nat} (h : RowV w b n) (o : Nat) (x : VM) : RowV (set8 w b o x) b n := by
  unfold set8
  exact (((((((h.setCell _ _ rfl).setCell _ _ rfl).setCell _ _ rfl).setCell _ _ rfl).setCell _ _ rfl).setCell _ _ rfl).setCell _ _ rfl).setCell _ _ rfl
theorem set8_below {w a : World} {B b : Nat} (h : Below B a w) (hB : B ≤ b) (o : Nat) (x : VM) : Below B a (set8 w b o x) := by
  unfold set8
  exact (((((((h.setCell hB _).setCell hB _).setCell hB _).setCell hB _).setCell hB _).setCell hB _).setCell hB _).setCell hB _
theorem set8_cells {w : World} {b n : Nat} (h : RowV w b n) (i : Nat) (hi : i < n) (x : VM) :
    ((set8 w b (i * 8) x).cell? ⟨b, i * 8, none⟩ = some (.int .i64 x.bal) ∧ (set8 w b (i * 8) x).cell? ⟨b, i * 8 + 1, none⟩ = some (.bool x.b.n) ∧ (set8 w b (i * 8) x).cell? ⟨b, i * 8 + 2, none⟩ = some (.int .i64 x.b.p) ∧ (set8 w b (i * 8) x).cell? ⟨b, i * 8 + 3, none⟩ = some (.int .i64 x.b.q) ∧ (set8 w b (i * 8) x).cell? ⟨b, i * 8 + 4, none⟩ = some (.slice x.a1 x.b.xs.length x.c1) ∧ (set8 w b (i * 8) x).cell? ⟨b, i * 8 + 5, none⟩ = some (.slice x.a2 x.b.ys.length x.c2) ∧ (set8 w b (i * 8) x).cell? ⟨b, i * 8 + 6, none⟩ = some (.int .i64 x.b.v) ∧ (set8 w b (i * 8) x).cell? ⟨b, i * 8 + 7, none⟩ = some (.int .i64 x.b.k)) ∧ ∀ o, (o < i * 8 ∨ i * 8 + 8 ≤ o) → (set8 w b (i * 8) x).cell? ⟨b, o, none⟩ = w.cell? ⟨b, o, none⟩ := by
  obtain ⟨C, t, h1, h2, h3⟩ := h
  have hs : ∀ (u : World) (D : Array Value) (o : Nat) (v : Value), u.heap[b]? = some (.cells D t (0, 0)) → (u.setCell ⟨b, o, none⟩ v).heap[b]? = some (.cells (D.setIfInBounds o v) t (0, 0)) := fun u D o v h => by simp [World.setCell, Array.getElem?_modify, h]
  have H := hs _ _ (i * 8 + 7) (.int .i64 x.b.k) (hs _ _ (i * 8 + 6) (.int .i64 x.b.v) (hs _ _ (i * 8 + 5) (.slice x.a2 x.b.ys.length x.c2) (hs _ _ (i * 8 + 4) (.slice x.a1 x.b.xs.length x.c1) (hs _ _ (i * 8 + 3) (.int .i64 x.b.q) (hs _ _ (i * 8 + 2) (.int .i64 x.b.p) (hs _ _ (i * 8 + 1) (.bool x.b.n) (hs _ _ (i * 8) (.int .i64 x.bal) h1)))))))
  have H' : (set8 w b (i * 8) x).heap[b]? = _ := H
  clear H hs
  have sz : i * 8 + 7 < C.size := by omega
  have K : ∀ o, (set8 w b (i * 8) x).cell? ⟨b, o, none⟩ = _ := fun o => cell_heap H' o
  have K0 : ∀ o, w.cell? ⟨b, o, none⟩ = _ := fun o => cell_heap h1 o
  clear H'
  refine ⟨⟨?_, ?_, ?_, ?_, ?_, ?_, ?_, ?_⟩, fun o ho => ?_⟩
  all_goals rw [K]
  case refine_9 => rw [K0]; simp only [Array.getElem?_setIfInBounds]; repeat (rw [if_neg (by omega)])
  all_goals
    simp only [Array.getElem?_setIfInBounds, Array.size_setIfInBounds]
    repeat (rw [if_neg (by omega)])
    rw [if_pos trivial, if_pos (by omega)]

/-- Where a copied vote lies. -/
def vmOf (g : Nat × Nat) (x : V) : VM := ⟨x.1, x.2, some ⟨g.1, 0, none⟩, x.2.xs.length, some ⟨g.2, 0, none⟩, x.2.ys.length⟩
theorem vmOf_body (g : Nat × Nat) (x : V) : (vmOf g x).body = x := rfl
/-- Votes in memory of their own: the list in block b, the lists of vote i in the blocks gs i. -/
structure CopyV (w : World) (b : Nat) (gs : List (Nat × Nat)) (bs : List V) : Prop where
  len : gs.length = bs.length
  lt : b < w.heap.size
  cell : ∀ i, i < bs.length → VC w b (i * 8) (vmOf (gs.getD i (0, 0)) (bs.getD i (0, e0)))
  own : ∀ i, i < bs.length → RunOwn w (b + 1) (gs.getD i (0, 0)).1 (gs.getD i (0, 0)).2 (bs.getD i (0, e0)).2.xs (bs.getD i (0, e0)).2.ys
  asc : ∀ i j, i < j → j < bs.length → ∀ g, g = (gs.getD i (0, 0)).1 ∨ g = (gs.getD i (0, 0)).2 → g < (gs.getD j (0, 0)).1 ∧ g < (gs.getD j (0, 0)).2
theorem CopyV.below {w w' : World} {b : Nat} {gs : List (Nat × Nat)} {bs : List V} (h : CopyV w b gs bs) (hb : Below w.heap.size w w') : CopyV w' b gs bs :=
  ⟨h.len, Nat.lt_of_lt_of_le h.lt hb.size, fun i hi => (h.cell i hi).below h.lt hb, fun i hi => (h.own i hi).below hb, h.asc⟩
theorem CopyV.nil {w : World} {b : Nat} (h : b < w.heap.size) : CopyV w b [] [] :=
  ⟨rfl, h, fun i hi => by simp at hi, fun i hi => by simp at hi, fun i j _ hj => by simp at hj⟩
def vmsOf (gs : List (Nat × Nat)) (bs : List V) : List VM := (List.range bs.length).map fun i => vmOf (gs.getD i (0, 0)) (bs.getD i (0, e0))
theorem vmsOf_len (gs : List (Nat × Nat)) (bs : List V) : (vmsOf gs bs).length = bs.length := by simp [vmsOf]
theorem vmsOf_at (gs : List (Nat × Nat)) (bs : List V) {i : Nat} (hi : i < bs.length) : (vmsOf gs bs).getD i v0 = vmOf (gs.getD i (0, 0)) (bs.getD i (0, e0)) := by simp [vmsOf, List.getD, hi]
theorem vmsOf_bodies (gs : List (Nat × Nat)) (bs : List V) : bodies (vmsOf gs bs) = bs := by
  unfold bodies vmsOf
  rw [List.map_map]
  apply List.ext_getElem
  · simp
  · intro i h1 h2
    simp at h1
    simp [List.getD, h1, vmOf, VM.body]
theorem CopyV.sl {w : World} {b : Nat} {gs : List (Nat × Nat)} {bs : List V} (h : CopyV w b gs bs) : SlV w (some ⟨b, 0, none⟩) (vmsOf gs bs) :=
  .inr ⟨b, 0, rfl, h.lt, fun i hi => by
    rw [vmsOf_len] at hi
    rw [vmsOf_at gs bs hi, Nat.zero_add]
    exact h.cell i hi⟩
theorem CopyV.vls {gs : List (Nat × Nat)} {bs : List V} (h : ∀ i, i < bs.length → (bs.getD i (0, e0)).2.xs.length ≤ 2 ^ 40 ∧ (bs.getD i (0, e0)).2.ys.length ≤ 2 ^ 40) : VLs (vmsOf gs bs) := fun i hi => by
  rw [vmsOf_len] at hi
  rw [vmsOf_at gs bs hi]
  exact ⟨(h i hi).1, (h i hi).2, Nat.le_refl _, Nat.le_refl _⟩

theorem Sl.turnedN {L : List Nat} {w w' : World} {a : Option Addr} {xs : List P2} (h : Sl w a xs) (ht : Turned L w w') (hL : xs = [] ∨ ∀ x, a = some x → x.block ∉ L) : Sl w' a xs := by
  rcases h with h | ⟨b, off, rfl, h⟩
  · exact .inl h
  rcases hL with h' | hL
  · exact .inl h'
  · exact .inr ⟨b, off, rfl, h.block ht.size (ht.block b h.1 (hL _ rfl))⟩
theorem RunOwn.turnedN {L : List Nat} {w w' : World} {B g1 g2 : Nat} {xs ys : List P2} (h : RunOwn w B g1 g2 xs ys) (ht : Turned L w w') (h1 : g1 ∉ L) (h2 : g2 ∉ L) : RunOwn w' B g1 g2 xs ys := by
  obtain ⟨o1, o2, o3, o4, o5, o6, o7⟩ := h
  have e1 := ht.block g1 o4.1 h1
  have e2 := ht.block g2 o5.1 h2
  exact ⟨o1, o2, o3, o4.block ht.size e1, o5.block ht.size e2, o6.block e1, o7.block e2⟩

/-- One vote more has been copied. -/
theorem CopyV.snoc {w w1 : World} {b n g1 g2 : Nat} {gs : List (Nat × Nat)} {bs : List V} {x : V} (h : CopyV w b gs bs) (hb : Below w.heap.size w w1) (ho : RunOwn w1 w.heap.size g1 g2 x.2.xs x.2.ys) (hr : RowV w1 b n) (hn : bs.length < n) :
    CopyV (set8 w1 b (bs.length * 8) (vmOf (g1, g2) x)) b (gs ++ [(g1, g2)]) (bs ++ [x]) := by
  have h1 := h.below hb
  have hl := h.len
  have h0 := h.lt
  have T := set8_turned w1 b (bs.length * 8) (vmOf (g1, g2) x)
  have P := set8_cells hr bs.length hn (vmOf (g1, g2) x)
  have elim : ∀ i, i < (bs ++ [x]).length → i < bs.length ∨ i = bs.length := fun i hi => by simp at hi; omega
  have n1 : g1 ∉ [b] := by have := ho.1; simp only [List.mem_singleton]; omega
  have n2 : g2 ∉ [b] := by have := ho.2.1; simp only [List.mem_singleton]; omega
  have OX := ho.turnedN T n1 n2
  have lo : ∀ i, i < bs.length → (gs.getD i (0, 0)).1 ∉ [b] ∧ (gs.getD i (0, 0)).2 ∉ [b] := fun i hi => by
    have := (h.own i hi).1
    have := (h.own i hi).2.1
    constructor <;> simp only [List.mem_singleton] <;> omega
  refine ⟨by simp [hl], by rw [set8_size]; exact h1.lt, fun i hi => ?_, fun i hi => ?_, fun i j hij hj => ?_⟩
  · rcases elim i hi with h' | h'
    · rw [snoc_lt _ _ _ h', snoc_lt _ _ _ (by omega)]
      obtain ⟨c, s1, s2⟩ := h1.cell i h'
      have e := fun o (ho : o < bs.length * 8) => P.2 o (.inl ho)
      refine ⟨?_, s1.turnedN T (.inr fun y hy => ?_), s2.turnedN T (.inr fun y hy => ?_)⟩
      · rw [e _ (by omega), e _ (by omega), e _ (by omega), e _ (by omega), e _ (by omega), e _ (by omega), e _ (by omega), e _ (by omega)]; exact c
      · simp only [vmOf, Option.some.injEq] at hy; rw [← hy]; exact (lo i h').1
      · simp only [vmOf, Option.some.injEq] at hy; rw [← hy]; exact (lo i h').2
    · subst h'
      rw [snoc_eq, snoc_eq' gs _ _ hl.symm]
      exact ⟨P.1, .inr ⟨_, _, rfl, OX.2.2.2.1⟩, .inr ⟨_, _, rfl, OX.2.2.2.2.1⟩⟩
  · rcases elim i hi with h' | h'
    · rw [snoc_lt _ _ _ h', snoc_lt _ _ _ (by omega)]
      exact (h1.own i h').turnedN T (lo i h').1 (lo i h').2
    · subst h'
      rw [snoc_eq, snoc_eq' gs _ _ hl.symm]
      exact ⟨by have := OX.1; show b + 1 ≤ g1; omega, by have := OX.2.1; show b + 1 ≤ g2; omega, OX.2.2⟩
  · rcases elim j hj with h' | h'
    · rw [snoc_lt _ _ _ (by omega), snoc_lt _ _ _ (by omega)]; exact h.asc i j hij h'
    · subst h'
      rw [snoc_lt _ _ _ (by omega), snoc_eq' gs _ _ hl.symm]
      have a1 := (h.own i hij).2.2.2.1.1
      have a2 := (h.own i hij).2.2.2.2.1.1
      have := ho.1
      have := ho.2.1
      intro g hg
      rcases hg with rfl | rfl
      · exact ⟨by show _ < g1; omega, by show _ < g2; omega⟩
      · exact ⟨by show _ < g1; omega, by show _ < g2; omega⟩
end Go.Proofs.YtildonpdmmliaaaGreatDoor.Own

namespace Go.Proofs.YtildonpdmmliaaaGreatDoor.Own
open Go.RowKit
set_option linter.unusedVariables false

def WfP (xs : List P2) : Prop := ∀ k, k < xs.length → Fits (xs.getD k (0, 0)).1 ∧ Fits (xs.getD k (0, 0)).2
/-- Two numbers, a mark ahead of each. -/
def pairText (m1 m2 : UInt8) (p : P2) : List UInt8 := m1 :: (Lib.itoa p.1 ++ (m2 :: Lib.itoa p.2))
/-- The first k pairs, behind what is there already. -/
def pairsTo (m1 m2 : UInt8) (l : List UInt8) (xs : List P2) : Nat → List UInt8
  | 0 => l
  | k + 1 => pairsTo m1 m2 l xs k ++ pairText m1 m2 (xs.getD k (0, 0))
/-- Of whom, and which. -/
def headText (p q : Int) : List UInt8 := Lib.itoa p ++ (46 :: (Lib.itoa q ++ [123]))
theorem pairsTo_app (m1 m2 : UInt8) (l : List UInt8) (xs : List P2) (k : Nat) : pairsTo m1 m2 l xs k = l ++ pairsTo m1 m2 [] xs k := by
  induction k with
  | zero => simp [pairsTo]
  | succ k ih => simp only [pairsTo]; rw [ih, List.append_assoc]
def readsText (e : EB) : List UInt8 := pairsTo 63 47 (headText e.p e.q) e.xs e.xs.length
def putsText (e : EB) : List UInt8 := pairsTo 33 61 (readsText e) e.ys e.ys.length
def entText (e : EB) : List UInt8 := if e.n then [110, 111, 110, 101] else putsText e ++ (125 :: (Lib.itoa e.v ++ (58 :: Lib.itoa e.k)))
def WfE (e : EB) : Prop := Fits e.p ∧ Fits e.q ∧ WfP e.xs ∧ WfP e.ys ∧ Fits e.v ∧ Fits e.k
theorem pair_len (m1 m2 : UInt8) (p : P2) (h : Fits p.1 ∧ Fits p.2) : (pairText m1 m2 p).length ≤ 44 := by
  have := itoa_len _ h.1; have := itoa_len _ h.2
  simp [pairText]; omega
theorem pairsTo_len (m1 m2 : UInt8) (l : List UInt8) (xs : List P2) (h : WfP xs) (k : Nat) (hk : k ≤ xs.length) : (pairsTo m1 m2 l xs k).length ≤ l.length + 44 * k := by
  induction k with
  | zero => simp [pairsTo]
  | succ k ih =>
    have := ih (by omega)
    have := pair_len m1 m2 _ (h k (by omega))
    simp only [pairsTo, List.length_append]
    omega
theorem head_len (p q : Int) (hp : Fits p) (hq : Fits q) : (headText p q).length ≤ 44 := by
  have := itoa_len _ hp; have := itoa_len _ hq
  simp [headText]; omega
/-- The same behind what is there already. -/
theorem entText_behind (l : List UInt8) (e : EB) (h : e.n = false) : pairsTo 33 61 (pairsTo 63 47 (l ++ headText e.p e.q) e.xs e.xs.length) e.ys e.ys.length ++ (125 :: (Lib.itoa e.v ++ (58 :: Lib.itoa e.k))) = l ++ entText e := by
  unfold entText putsText readsText
  rw [h]
  simp only [Bool.false_eq_true, if_false]
  rw [pairsTo_app 33 61 (pairsTo 63 47 (l ++ headText e.p e.q) e.xs e.xs.length), pairsTo_app 63 47 (l ++ headText e.p e.q), pairsTo_app 33 61 (pairsTo 63 47 (headText e.p e.q) e.xs e.xs.length), pairsTo_app 63 47 (headText e.p e.q)]
  simp only [List.append_assoc]
theorem entText_ne (e : EB) : entText e ≠ [] := by
  unfold entText
  split <;> simp
theorem entText_len (e : EB) (h : WfE e) : (entText e).length ≤ 44 * (e.xs.length + e.ys.length) + 132 := by
  obtain ⟨f1, f2, f3, f4, f5, f6⟩ := h
  have a1 := head_len _ _ f1 f2
  have a2 := pairsTo_len 63 47 (headText e.p e.q) e.xs f3 _ (Nat.le_refl _)
  have a3 := pairsTo_len 33 61 (readsText e) e.ys f4 _ (Nat.le_refl _)
  have a4 := itoa_len _ f5
  have a5 := itoa_len _ f6
  unfold entText
  split
  · simp only [List.length_cons, List.length_nil]; omega
  · have e1 : (putsText e).length ≤ (readsText e).length + 44 * e.ys.length := a3
    have e2 : (readsText e).length ≤ (headText e.p e.q).length + 44 * e.xs.length := a2
    simp only [List.length_append, List.length_cons]
    omega
end Go.Proofs.YtildonpdmmliaaaGreatDoor.Own

namespace Go.Proofs.YtildonpdmmliaaaGreatDoor.Own
open Go.RowKit
set_option linter.unusedVariables false
set_option linter.unusedSimpArgs false

set_option maxHeartbeats 400000 in
theorem toReq (a b : Int) (w : World) : Calls Tryz.prog 28 #[.agg #[.int .i64 a, .int .i64 b]] w fun e w' => e = .returned (.agg #[.int .i64 a, .int .i64 b]) ∧ Below w.heap.size w w' := by
  go_enter Tryz.func28, Tryz.ntmps28
  go_wp2
  refine bodyPost_ret (v := .agg #[.int .i64 a, .int .i64 b]) (by simp [results, Tryz.results28, go_sem]) rfl ⟨rfl, ?_⟩
  exact ((((Below.refl _ _).alloc (Nat.le_refl _) _).alloc (by simp) _).alloc (by simp; omega) _)

theorem eqReq (a b : Int) (w : World) : Calls Tryz.prog 38 #[.agg #[.int .i64 a, .int .i64 b], .agg #[.int .i64 a, .int .i64 b]] w fun e w' => e = .returned (.bool true) ∧ Below w.heap.size w w' := by
  have ea : (a != a) = false := by simp
  have eb : (b != b) = false := by simp
  go_enter Tryz.func38, Tryz.ntmps38
  go_wp2
  go_ret
  exact ⟨rfl, ((Below.refl _ _).alloc (Nat.le_refl _) _).alloc (by simp) _⟩

theorem szEntry (n : Bool) (p q : Int) (a1 a2 : Option Addr) (n1 c1 n2 c2 : Nat) (v k left : Int) (w : World) (h1 : n1 ≤ maxLen) (h2 : n2 ≤ maxLen) (h0 : 0 ≤ left) (hm : left ≤ 2 ^ 60) :
    Calls Tryz.prog 9 #[.agg #[.bool n, .int .i64 p, .int .i64 q, .slice a1 n1 c1, .slice a2 n2 c2, .int .i64 v, .int .i64 k], .int .i64 left] w fun e w' => e = .returned (.int .i64 (if left - n1 - n2 < 0 then -1 else left - n1 - n2)) ∧ Below w.heap.size w w' := by
  obtain ⟨W, hW⟩ : ∃ W, W = w.alloc (.cells #[.bool n, .int .i64 p, .int .i64 q, .slice a1 n1 c1, .slice a2 n2 c2, .int .i64 v, .int .i64 k] 29) := ⟨_, rfl⟩
  have BW : Hid (Below w.heap.size w W) := by show Below _ _ _; rw [hW]; exact (Below.refl _ _).alloc (Nat.le_refl _) _
  have HW : Hid (W = _) := hW
  clear hW
  by_cases hl : left - n1 - n2 < 0
  · go_enter Tryz.func9, Tryz.ntmps9
    go_wp2_with fail
    rw [← HW.out]
    refine (szRun a1 a2 n1 c1 n2 c2 v k left W h1 h2 h0 hm).mono ?_
    rintro e w1 ⟨rfl, b1⟩
    rw [if_pos (by omega)]
    have B1 : Hid (Below w.heap.size w w1) := BW.out.trans (b1.mono BW.out.size)
    clear b1
    go_wp2_with fail
    go_ret
    exact ⟨rfl, B1.out⟩
  · go_enter Tryz.func9, Tryz.ntmps9
    go_wp2_with fail
    rw [← HW.out]
    refine (szRun a1 a2 n1 c1 n2 c2 v k left W h1 h2 h0 hm).mono ?_
    rintro e w1 ⟨rfl, b1⟩
    rw [if_neg (by omega)]
    have B1 : Hid (Below w.heap.size w w1) := BW.out.trans (b1.mono BW.out.size)
    clear b1
    go_wp2_with fail
    go_ret
    exact ⟨rfl, B1.out⟩

set_option maxRecDepth 100000 in
set_option maxHeartbeats 1000000 in
theorem eqEntry (n : Bool) (p q : Int) (a1 a2 b1 b2 : Option Addr) (c1 c2 d1 d2 : Nat) (xs ys : List P2) (v k : Int) (w : World) (h1 : Sl w a1 xs) (h2 : Sl w a2 ys) (h3 : Sl w b1 xs) (h4 : Sl w b2 ys)
    (n1 : xs.length ≤ 2 ^ 40) (n2 : ys.length ≤ 2 ^ 40) :
    Calls Tryz.prog 20 #[.agg #[.bool n, .int .i64 p, .int .i64 q, .slice a1 xs.length c1, .slice a2 ys.length c2, .int .i64 v, .int .i64 k], .agg #[.bool n, .int .i64 p, .int .i64 q, .slice b1 xs.length d1, .slice b2 ys.length d2, .int .i64 v, .int .i64 k]] w fun e w' => e = .returned (.bool true) ∧ Below w.heap.size w w' := by
  have H1 : Hid (Sl w a1 xs) := h1
  have H2 : Hid (Sl w a2 ys) := h2
  have H3 : Hid (Sl w b1 xs) := h3
  have H4 : Hid (Sl w b2 ys) := h4
  clear h1 h2 h3 h4
  obtain ⟨W, hW⟩ : ∃ W, W = (w.alloc (.cells #[.bool n, .int .i64 p, .int .i64 q, .slice a1 xs.length c1, .slice a2 ys.length c2, .int .i64 v, .int .i64 k] 41)).alloc (.cells #[.bool n, .int .i64 p, .int .i64 q, .slice b1 xs.length d1, .slice b2 ys.length d2, .int .i64 v, .int .i64 k] 41) := ⟨_, rfl⟩
  have BW : Hid (Below w.heap.size w W) := by
    show Below _ _ _
    rw [hW]; exact ((Below.refl _ _).alloc (Nat.le_refl _) _).alloc (by simp) _
  have G0 : Hid (Blk W w.heap.size #[.bool n, .int .i64 p, .int .i64 q, .slice a1 xs.length c1, .slice a2 ys.length c2, .int .i64 v, .int .i64 k] 41) := by show Blk _ _ _ _; rw [hW]; exact (Blk.new _ _ _).alloc _
  have G1 : Hid (Blk W (w.heap.size + 1) #[.bool n, .int .i64 p, .int .i64 q, .slice b1 xs.length d1, .slice b2 ys.length d2, .int .i64 v, .int .i64 k] 41) := by show Blk _ _ _ _; rw [hW]; exact Blk.new2 _ _ _ _
  have HW : Hid (W = _) := hW
  clear hW
  have en : (n != n) = false := by simp
  go_enter Tryz.func20, Tryz.ntmps20
  go_wp2_with fail
  rw [← HW.out]
  refine (eqReq p q W).mono ?_
  rintro e w1 ⟨rfl, b1'⟩
  have B1 : Hid (Below w.heap.size w w1) := BW.out.trans (b1'.mono BW.out.size)
  obtain ⟨q0, q1, q2, q3, q4, q5, q6⟩ := (G0.out.keep b1').cells7
  obtain ⟨r0, r1, r2, r3, r4, r5, r6⟩ := (G1.out.keep b1').cells7
  clear b1'
  go_wp2_with fail
  refine (eqRun a1 a2 b1 b2 c1 c2 d1 d2 xs ys xs ys v k v k w1 (H1.out.below B1.out) (H2.out.below B1.out) (H3.out.below B1.out) (H4.out.below B1.out) n1 n2 n1 n2 ⟨rfl, rfl, rfl, rfl⟩).mono ?_
  rintro e w2 ⟨rfl, b2'⟩
  have B2 : Hid (Below w.heap.size w w2) := B1.out.trans (b2'.mono B1.out.size)
  clear b2' q0 q1 q2 q3 q4 q5 q6 r0 r1 r2 r3 r4 r5 r6
  go_wp2_with fail
  go_ret
  exact ⟨rfl, B2.out⟩

set_option maxRecDepth 100000 in
set_option maxHeartbeats 1000000 in
theorem toEntry (n : Bool) (p q : Int) (a1 a2 : Option Addr) (c1 c2 : Nat) (xs ys : List P2) (v k : Int) (w : World) (h1 : Sl w a1 xs) (h2 : Sl w a2 ys) (hn1 : xs.length ≤ 2 ^ 40) (hn2 : ys.length ≤ 2 ^ 40) :
    Calls Tryz.prog 15 #[.agg #[.bool n, .int .i64 p, .int .i64 q, .slice a1 xs.length c1, .slice a2 ys.length c2, .int .i64 v, .int .i64 k]] w fun e w' => ∃ g1 g2, e = .returned (.agg #[.bool n, .int .i64 p, .int .i64 q, .slice (some ⟨g1, 0, none⟩) xs.length xs.length, .slice (some ⟨g2, 0, none⟩) ys.length ys.length, .int .i64 v, .int .i64 k]) ∧ RunOwn w' w.heap.size g1 g2 xs ys ∧ Below w.heap.size w w' := by
  have H1 : Hid (Sl w a1 xs) := h1
  have H2 : Hid (Sl w a2 ys) := h2
  clear h1 h2
  obtain ⟨W, hW⟩ : ∃ W, W = ((w.alloc (.cells #[.bool n, .int .i64 p, .int .i64 q, .slice a1 xs.length c1, .slice a2 ys.length c2, .int .i64 v, .int .i64 k] 29)).alloc (.cells #[.bool false, .int .i64 0, .int .i64 0, .slice none 0 0, .slice none 0 0, .int .i64 0, .int .i64 0] 41)).alloc (.cells #[.bool n, .int .i64 0, .int .i64 0, .slice none 0 0, .slice none 0 0, .int .i64 0, .int .i64 0] 41) := ⟨_, rfl⟩
  have BW : Hid (Below w.heap.size w W) := by
    show Below _ _ _
    rw [hW]; exact ((((Below.refl _ _).alloc (Nat.le_refl _) _).alloc (by simp) _).alloc (by simp; omega) _)
  have SW : Hid (W.heap.size = w.heap.size + 3) := by show _ = _; rw [hW]; simp
  have G0 : Hid (Blk W w.heap.size #[.bool n, .int .i64 p, .int .i64 q, .slice a1 xs.length c1, .slice a2 ys.length c2, .int .i64 v, .int .i64 k] 29) := by
    show Blk _ _ _ _; rw [hW]; exact ((Blk.new _ _ _).alloc _).alloc _
  have G1 : Hid (Blk W (w.heap.size + 1) #[.bool false, .int .i64 0, .int .i64 0, .slice none 0 0, .slice none 0 0, .int .i64 0, .int .i64 0] 41) := by
    show Blk _ _ _ _; rw [hW]; exact (Blk.new2 _ _ _ _).alloc _
  have G2 : Hid (Blk W (w.heap.size + 1 + 1) #[.bool n, .int .i64 0, .int .i64 0, .slice none 0 0, .slice none 0 0, .int .i64 0, .int .i64 0] 41) := by
    show Blk _ _ _ _; rw [hW]; exact Blk.new3 _ _ _ _ _
  have HW : Hid (W = _) := hW
  clear hW
  go_enter Tryz.func15, Tryz.ntmps15
  go_wp2_with fail
  rw [← HW.out]
  refine (toReq p q W).mono ?_
  rintro e w1 ⟨rfl, b1⟩
  have B1 : Hid (Below w.heap.size w w1) := BW.out.trans (b1.mono BW.out.size)
  have S1 : Hid (W.heap.size ≤ w1.heap.size) := b1.size
  have D0 : Hid (Blk w1 w.heap.size _ _) := G0.out.keep b1
  have D1 : Hid (Blk w1 (w.heap.size + 1) _ _) := G1.out.keep b1
  have D2 : Hid (Blk w1 (w.heap.size + 1 + 1) _ _) := G2.out.keep b1
  clear b1
  obtain ⟨q0, q1, q2, q3, q4, q5, q6⟩ := D0.out.cells7
  obtain ⟨r0, r1, r2, r3, r4, r5, r6⟩ := D2.out.cells7
  have f1 := D2.out.frozen 1
  have f2 := D2.out.frozen 2
  go_wp2_with fail
  obtain ⟨W2, hW2⟩ : ∃ W2, W2 = (w1.setCell ⟨w.heap.size + 1 + 1, 1, none⟩ (.int .i64 p)).setCell ⟨w.heap.size + 1 + 1, 2, none⟩ (.int .i64 q) := ⟨_, rfl⟩
  have E1 : Hid (Blk W2 (w.heap.size + 1) #[.bool false, .int .i64 0, .int .i64 0, .slice none 0 0, .slice none 0 0, .int .i64 0, .int .i64 0] 41) := by show Blk _ _ _ _; rw [hW2]; exact (D1.out.other (by omega) _ _).other (by omega) _ _
  have E2 : Hid (Blk W2 (w.heap.size + 1 + 1) #[.bool n, .int .i64 p, .int .i64 q, .slice none 0 0, .slice none 0 0, .int .i64 0, .int .i64 0] 41) := by show Blk _ _ _ _; rw [hW2]; exact (D2.out.set _ _).set _ _
  have B2 : Hid (Below w.heap.size w W2) := by show Below _ _ _; rw [hW2]; exact (B1.out.setCell (by show w.heap.size ≤ w.heap.size + 1 + 1; omega) _).setCell (by show w.heap.size ≤ w.heap.size + 1 + 1; omega) _
  have S2 : Hid (w.heap.size + 3 ≤ W2.heap.size) := by show _ ≤ _; rw [hW2]; simp [World.setCell]; have := S1.out; have := SW.out; omega
  have HW2 : Hid (W2 = _) := hW2
  rw [← HW2.out]
  clear hW2 q0 q1 q2 q3 q4 q5 q6 r0 r1 r2 r3 r4 r5 r6 f1 f2
  refine (toRun a1 a2 c1 c2 xs ys v k W2 (H1.out.below B2.out) (H2.out.below B2.out) hn1 hn2).mono ?_
  rintro e w3 ⟨g1, g2, rfl, own, b3⟩
  have F1 : Hid (Blk w3 (w.heap.size + 1) _ _) := E1.out.keep b3
  have F2 : Hid (Blk w3 (w.heap.size + 1 + 1) _ _) := E2.out.keep b3
  have B3 : Hid (Below w.heap.size w w3) := B2.out.trans (b3.mono B2.out.size)
  have O3 : Hid (RunOwn w3 w.heap.size g1 g2 xs ys) := ⟨Nat.le_trans B2.out.size own.1, Nat.le_trans B2.out.size own.2.1, own.2.2⟩
  have N3 : Hid (w.heap.size + 3 ≤ g1 ∧ w.heap.size + 3 ≤ g2) := ⟨Nat.le_trans S2.out own.1, Nat.le_trans S2.out own.2.1⟩
  clear b3 own
  obtain ⟨i0, i1, i2, i3, i4, i5, i6⟩ := F1.out.cells7
  obtain ⟨o0, o1, o2, o3, o4, o5, o6⟩ := F2.out.cells7
  have fo := F2.out.frozen
  have fi := F1.out.frozen
  go_wp2
  refine bodyPost_ret (v := .agg #[.bool n, .int .i64 p, .int .i64 q, .slice (some ⟨g1, 0, none⟩) xs.length xs.length, .slice (some ⟨g2, 0, none⟩) ys.length ys.length, .int .i64 v, .int .i64 k]) (by simp [results, Tryz.results15, go_sem, i0, i1, i2, i3, i4, i5, i6]) rfl ⟨g1, g2, rfl, ?_, ?_⟩
  · have KK : KeepFrom (w.heap.size + 3) w3 _ := (((((((((((KeepFrom.refl (w.heap.size + 3) w3).setCell (p := ⟨w.heap.size + 1 + 1, 3, none⟩) (by show w.heap.size + 1 + 1 < _; omega) (.slice (some ⟨g1, 0, none⟩) xs.length xs.length)).setCell (p := ⟨w.heap.size + 1 + 1, 4, none⟩) (by show w.heap.size + 1 + 1 < _; omega) (.slice (some ⟨g2, 0, none⟩) ys.length ys.length)).setCell (p := ⟨w.heap.size + 1 + 1, 5, none⟩) (by show w.heap.size + 1 + 1 < _; omega) (.int .i64 v)).setCell (p := ⟨w.heap.size + 1 + 1, 6, none⟩) (by show w.heap.size + 1 + 1 < _; omega) (.int .i64 k)).setCell (p := ⟨w.heap.size + 1, 0, none⟩) (by show w.heap.size + 1 < _; omega) (.bool n)).setCell (p := ⟨w.heap.size + 1, 1, none⟩) (by show w.heap.size + 1 < _; omega) (.int .i64 p)).setCell (p := ⟨w.heap.size + 1, 2, none⟩) (by show w.heap.size + 1 < _; omega) (.int .i64 q)).setCell (p := ⟨w.heap.size + 1, 3, none⟩) (by show w.heap.size + 1 < _; omega) (.slice (some ⟨g1, 0, none⟩) xs.length xs.length)).setCell (p := ⟨w.heap.size + 1, 4, none⟩) (by show w.heap.size + 1 < _; omega) (.slice (some ⟨g2, 0, none⟩) ys.length ys.length)).setCell (p := ⟨w.heap.size + 1, 5, none⟩) (by show w.heap.size + 1 < _; omega) (.int .i64 v)).setCell (p := ⟨w.heap.size + 1, 6, none⟩) (by show w.heap.size + 1 < _; omega) (.int .i64 k)
    exact O3.out.keep KK N3.out.1 N3.out.2
  · have s2 : w.heap.size ≤ w.heap.size + 1 + 1 := by omega
    have s1 : w.heap.size ≤ w.heap.size + 1 := by omega
    exact ((((((((((B3.out.setCell s2 _).setCell s2 _).setCell s2 _).setCell s2 _).setCell s1 _).setCell s1 _).setCell s1 _).setCell s1 _).setCell s1 _).setCell s1 _).setCell s1 _
end Go.Proofs.YtildonpdmmliaaaGreatDoor.Own

namespace Go.Proofs.YtildonpdmmliaaaGreatDoor.Own
open Go.RowKit Go.Sort
set_option linter.unusedVariables false
set_option linter.unusedSimpArgs false

theorem infoVote : (Tryz.prog.info? 56).map (fun i => (i.zero, i.size, i.bytes)) = some (some (.agg #[.int .i64 0, .bool false, .int .i64 0, .int .i64 0, .slice none 0 0, .slice none 0 0, .int .i64 0, .int .i64 0]), 8, 96) := by kernel_rfl

set_option maxHeartbeats 400000 in
theorem szVote (m : Int) (n : Bool) (p q : Int) (a1 a2 : Option Addr) (n1 c1 n2 c2 : Nat) (v k left : Int) (w : World) (h1 : n1 ≤ maxLen) (h2 : n2 ≤ maxLen) (h0 : 0 ≤ left) (hm : left ≤ 2 ^ 60) :
    Calls Tryz.prog 23 #[.agg #[.int .i64 m, .bool n, .int .i64 p, .int .i64 q, .slice a1 n1 c1, .slice a2 n2 c2, .int .i64 v, .int .i64 k], .int .i64 left] w fun e w' => e = .returned (.int .i64 (if left - n1 - n2 < 0 then -1 else left - n1 - n2)) ∧ Below w.heap.size w w' := by
  obtain ⟨W, hW⟩ : ∃ W, W = w.alloc (.cells #[.int .i64 m, .bool n, .int .i64 p, .int .i64 q, .slice a1 n1 c1, .slice a2 n2 c2, .int .i64 v, .int .i64 k] 76) := ⟨_, rfl⟩
  have BW : Hid (Below w.heap.size w W) := by show Below _ _ _; rw [hW]; exact (Below.refl _ _).alloc (Nat.le_refl _) _
  have HW : Hid (W = _) := hW
  clear hW
  by_cases hl : left - n1 - n2 < 0
  · go_enter Tryz.func23, Tryz.ntmps23
    go_wp2_with fail
    rw [← HW.out]
    refine (szEntry n p q a1 a2 n1 c1 n2 c2 v k left W h1 h2 h0 hm).mono ?_
    rintro e w1 ⟨rfl, b1⟩
    rw [if_pos (by omega)]
    have B1 : Hid (Below w.heap.size w w1) := BW.out.trans (b1.mono BW.out.size)
    clear b1
    go_wp2_with fail
    go_ret
    exact ⟨rfl, B1.out⟩
  · go_enter Tryz.func23, Tryz.ntmps23
    go_wp2_with fail
    rw [← HW.out]
    refine (szEntry n p q a1 a2 n1 c1 n2 c2 v k left W h1 h2 h0 hm).mono ?_
    rintro e w1 ⟨rfl, b1⟩
    rw [if_neg (by omega)]
    have B1 : Hid (Below w.heap.size w w1) := BW.out.trans (b1.mono BW.out.size)
    clear b1
    go_wp2_with fail
    go_ret
    exact ⟨rfl, B1.out⟩

set_option maxHeartbeats 1000000 in
theorem szVoteS (a : Option Addr) (c : Nat) (vs : List VM) (left : Int) (w : World) (h : SlV w a vs) (hl : vs.length ≤ maxLen) (hm : ∀ i, i < vs.length → (vs.getD i v0).b.xs.length ≤ maxLen ∧ (vs.getD i v0).b.ys.length ≤ maxLen) (h0 : 0 ≤ left) (h1 : left ≤ 2 ^ 60) :
    Calls Tryz.prog 10 #[.slice a vs.length c, .int .i64 left] w fun e w' => e = .returned (.int .i64 (if left < (vs.length + sumV vs vs.length : Nat) then -1 else left - (vs.length + sumV vs vs.length : Nat))) ∧ Below w.heap.size w w' := by
  have HS : Hid (SlV w a vs) := h
  have HM : Hid (∀ i, i < vs.length → (vs.getD i v0).b.xs.length ≤ maxLen ∧ (vs.getD i v0).b.ys.length ≤ maxLen) := hm
  clear h hm
  unfold maxLen at hl
  obtain ⟨T, hT⟩ : ∃ T, T = vs.length + sumV vs vs.length := ⟨_, rfl⟩
  rw [← hT]
  have HT : Hid (T = vs.length + sumV vs vs.length) := hT
  obtain ⟨r, hr⟩ : ∃ r : Int, r = if left < (T : Nat) then -1 else left - (T : Nat) := ⟨_, rfl⟩
  rw [← hr]
  have HR1 : Hid (left < (T : Nat) → r = -1) := fun h => by rw [hr, if_pos h]
  have HR2 : Hid (¬ left < (T : Nat) → r = left - (T : Nat)) := fun h => by rw [hr, if_neg h]
  clear hT hr
  by_cases hb : left - (vs.length : Int) < 0
  · have hlt : Hid (left < (T : Nat)) := by have := HT.out; show _ < _; omega
    go_enter Tryz.func10, Tryz.ntmps10
    go_wp2_with fail
    go_ret
    exact ⟨ret_int (HR1.out hlt.out).symm, Below.refl _ _⟩
  · go_enter Tryz.func10, Tryz.ntmps10
    go_wp2_with fail
    go_loopw [1, 5] (fun q i wr => ∃ k : Nat, k ≤ vs.length ∧ i = .int .i64 k ∧ ((vs.length + sumV vs k : Nat) : Int) ≤ left ∧ q = .int .i64 (left - vs.length - (sumV vs k : Nat)) ∧ Hid (Below w.heap.size w wr)) (fun _ i _ => vs.length - (intOf i).toNat)
    case atStart => exact ⟨0, Nat.zero_le _, rfl, by simp [sumV]; omega, by simp [sumV], Below.refl _ _⟩
    case round =>
      obtain ⟨k, hk, rfl, hle, rfl, KB⟩ := hrel
      by_cases hlt : k < vs.length
      · have hki : (k : Int) < (vs.length : Int) := by omega
        rcases HS.out.below KB.out with hh | ⟨b, off, rfl, _, hh⟩
        · rw [hh] at hlt; simp at hlt
        obtain ⟨⟨d0, d1, d2, d3, d4, d5, d6, d7⟩, _⟩ := hh k hlt
        obtain ⟨mx1, mx2⟩ := HM.out k hlt
        have NX : Hid (sumV vs (k + 1) = sumV vs k + ((vs.getD k v0).b.xs.length + (vs.getD k v0).b.ys.length)) := rfl
        have TM : Hid (vs.length + sumV vs (k + 1) ≤ T) := by have := sumV_mono vs (show k + 1 ≤ vs.length by omega); have := HT.out; show _ ≤ _; omega
        clear hh
        generalize vs.getD k v0 = x at d0 d1 d2 d3 d4 d5 d6 d7 mx1 mx2 NX
        obtain ⟨xbal, ⟨xn, xp, xq, xxs, xys, xv, xk⟩, xa1, xc1, xa2, xc2⟩ := x
        simp only at d0 d1 d2 d3 d4 d5 d6 d7 mx1 mx2 NX
        obtain ⟨z, hz, z0⟩ : ∃ z : Int, z = left - vs.length - (sumV vs k : Nat) ∧ 0 ≤ z := ⟨_, rfl, by omega⟩
        rw [← hz]
        have HZ : Hid (z = left - vs.length - (sumV vs k : Nat)) := hz
        have z1 : z ≤ 2 ^ 60 := by omega
        clear hz
        go_wp2_with fail
        refine (szVote xbal xn xp xq xa1 xa2 xxs.length xc1 xys.length xc2 xv xk z _ mx1 mx2 z0 z1).mono ?_
        rintro e w1 ⟨rfl, hw⟩
        have B1 : Hid (Below w.heap.size w w1) := KB.out.trans (hw.mono KB.out.size)
        clear hw
        by_cases hc : z - (xxs.length : Int) - (xys.length : Int) < 0
        · rw [if_pos hc]
          have LT : Hid (left < (T : Nat)) := by have := TM.out; have := NX.out; have := HZ.out; show _ < _; omega
          go_wp2_with fail
          go_ret
          exact ⟨ret_int (HR1.out LT.out).symm, B1.out⟩
        · rw [if_neg hc]
          go_wp2_with fail
          go_roundw
          case rel => exact ⟨k + 1, by omega, by go_num, by have := NX.out; have := HZ.out; omega, by have := NX.out; have := HZ.out; congr 1; omega, B1.out⟩
          case measure => simp [intOf]; omega
      · have hki : ¬ (k : Int) < (vs.length : Int) := by omega
        obtain rfl : k = vs.length := by omega
        go_wp2_with fail
        go_ret
        have ht := HT.out
        have h2 := HR2.out (by omega)
        exact ⟨ret_int (by omega), KB.out⟩

set_option maxRecDepth 100000 in
set_option maxHeartbeats 1000000 in
theorem toVote (m : Int) (n : Bool) (p q : Int) (a1 a2 : Option Addr) (c1 c2 : Nat) (xs ys : List P2) (v k : Int) (w : World) (h1 : Sl w a1 xs) (h2 : Sl w a2 ys) (hn1 : xs.length ≤ 2 ^ 40) (hn2 : ys.length ≤ 2 ^ 40) :
    Calls Tryz.prog 30 #[.agg #[.int .i64 m, .bool n, .int .i64 p, .int .i64 q, .slice a1 xs.length c1, .slice a2 ys.length c2, .int .i64 v, .int .i64 k]] w fun e w' => ∃ g1 g2, e = .returned (.agg #[.int .i64 m, .bool n, .int .i64 p, .int .i64 q, .slice (some ⟨g1, 0, none⟩) xs.length xs.length, .slice (some ⟨g2, 0, none⟩) ys.length ys.length, .int .i64 v, .int .i64 k]) ∧ RunOwn w' w.heap.size g1 g2 xs ys ∧ Below w.heap.size w w' := by
  have H1 : Hid (Sl w a1 xs) := h1
  have H2 : Hid (Sl w a2 ys) := h2
  clear h1 h2
  obtain ⟨W, hW⟩ : ∃ W, W = ((w.alloc (.cells #[.int .i64 m, .bool n, .int .i64 p, .int .i64 q, .slice a1 xs.length c1, .slice a2 ys.length c2, .int .i64 v, .int .i64 k] 76)).alloc (.cells #[.int .i64 0, .bool false, .int .i64 0, .int .i64 0, .slice none 0 0, .slice none 0 0, .int .i64 0, .int .i64 0] 56)).alloc (.cells #[.int .i64 m, .bool false, .int .i64 0, .int .i64 0, .slice none 0 0, .slice none 0 0, .int .i64 0, .int .i64 0] 56) := ⟨_, rfl⟩
  have BW : Hid (Below w.heap.size w W) := by
    show Below _ _ _
    rw [hW]; exact ((((Below.refl _ _).alloc (Nat.le_refl _) _).alloc (by simp) _).alloc (by simp; omega) _)
  have SW : Hid (W.heap.size = w.heap.size + 3) := by show _ = _; rw [hW]; simp
  have G1 : Hid (Blk W (w.heap.size + 1) #[.int .i64 0, .bool false, .int .i64 0, .int .i64 0, .slice none 0 0, .slice none 0 0, .int .i64 0, .int .i64 0] 56) := by
    show Blk _ _ _ _; rw [hW]; exact (Blk.new2 _ _ _ _).alloc _
  have G2 : Hid (Blk W (w.heap.size + 1 + 1) #[.int .i64 m, .bool false, .int .i64 0, .int .i64 0, .slice none 0 0, .slice none 0 0, .int .i64 0, .int .i64 0] 56) := by
    show Blk _ _ _ _; rw [hW]; exact Blk.new3 _ _ _ _ _
  have HW : Hid (W = _) := hW
  clear hW
  go_enter Tryz.func30, Tryz.ntmps30
  go_wp2_with fail
  rw [← HW.out]
  refine (toEntry n p q a1 a2 c1 c2 xs ys v k W (H1.out.below BW.out) (H2.out.below BW.out) hn1 hn2).mono ?_
  rintro e w3 ⟨g1, g2, rfl, own, b3⟩
  have F1 : Hid (Blk w3 (w.heap.size + 1) _ _) := G1.out.keep b3
  have F2 : Hid (Blk w3 (w.heap.size + 1 + 1) _ _) := G2.out.keep b3
  have B3 : Hid (Below w.heap.size w w3) := BW.out.trans (b3.mono BW.out.size)
  have O3 : Hid (RunOwn w3 w.heap.size g1 g2 xs ys) := ⟨Nat.le_trans BW.out.size own.1, Nat.le_trans BW.out.size own.2.1, own.2.2⟩
  have N3 : Hid (w.heap.size + 3 ≤ g1 ∧ w.heap.size + 3 ≤ g2) := ⟨by have := SW.out; have := own.1; omega, by have := SW.out; have := own.2.1; omega⟩
  clear b3 own
  obtain ⟨i0, i1, i2, i3, i4, i5, i6, i7⟩ := F1.out.cells8
  obtain ⟨o0, o1, o2, o3, o4, o5, o6, o7⟩ := F2.out.cells8
  have fo := F2.out.frozen
  have fi := F1.out.frozen
  go_wp2
  refine bodyPost_ret (v := .agg #[.int .i64 m, .bool n, .int .i64 p, .int .i64 q, .slice (some ⟨g1, 0, none⟩) xs.length xs.length, .slice (some ⟨g2, 0, none⟩) ys.length ys.length, .int .i64 v, .int .i64 k]) (by simp [results, Tryz.results30, go_sem, i0, i1, i2, i3, i4, i5, i6, i7]) rfl ⟨g1, g2, rfl, ?_, ?_⟩
  · have S2 : ∀ {u : World} (o : Nat) (x : Value), KeepFrom (w.heap.size + 3) w3 u → KeepFrom (w.heap.size + 3) w3 (u.setCell ⟨w.heap.size + 1 + 1, o, none⟩ x) := fun o x h => h.setCell (by show w.heap.size + 1 + 1 < _; omega) x
    have S1 : ∀ {u : World} (o : Nat) (x : Value), KeepFrom (w.heap.size + 3) w3 u → KeepFrom (w.heap.size + 3) w3 (u.setCell ⟨w.heap.size + 1, o, none⟩ x) := fun o x h => h.setCell (by show w.heap.size + 1 < _; omega) x
    exact O3.out.keep (S1 _ _ (S1 _ _ (S1 _ _ (S1 _ _ (S1 _ _ (S1 _ _ (S1 _ _ (S1 _ _ (S2 _ _ (S2 _ _ (S2 _ _ (S2 _ _ (S2 _ _ (S2 _ _ (S2 _ _ (KeepFrom.refl _ _)))))))))))))))) N3.out.1 N3.out.2
  · have s2 : w.heap.size ≤ w.heap.size + 1 + 1 := by omega
    have s1 : w.heap.size ≤ w.heap.size + 1 := by omega
    exact ((((((((((((((B3.out.setCell s2 _).setCell s2 _).setCell s2 _).setCell s2 _).setCell s2 _).setCell s2 _).setCell s2 _).setCell s1 _).setCell s1 _).setCell s1 _).setCell s1 _).setCell s1 _).setCell s1 _).setCell s1 _).setCell s1 _

theorem RowV.made (w : World) (n : Nat) : RowV (w.alloc (.cells (madeCells (Value.agg #[.int .i64 0, .bool false, .int .i64 0, .int .i64 0, .slice none 0 0, .slice none 0 0, .int .i64 0, .int .i64 0]).cells (n * 8)) 56)) w.heap.size n := by
  refine ⟨_, _, heap_new _ _, size_madeCells _ _, ?_⟩
  intro v hv
  obtain ⟨k, hk, rfl⟩ := Array.getElem_of_mem hv
  rw [size_madeCells] at hk
  obtain ⟨v, h1, h2⟩ := made_cell (z := (Value.agg #[.int .i64 0, .bool false, .int .i64 0, .int .i64 0, .slice none 0 0, .slice none 0 0, .int .i64 0, .int .i64 0]).cells) (n := n * 8) (k := k) (by decide) hk (by simp [Value.cells, Value.oneCell'])
  rw [Array.getElem?_eq_getElem (by simpa [size_madeCells] using hk)] at h1
  injection h1 with h1
  rw [h1]; exact h2

set_option maxRecDepth 100000 in
set_option maxHeartbeats 2000000 in
theorem toVoteS (a : Option Addr) (c : Nat) (vs : List VM) (w : World) (h : SlV w a vs) (hn : vs.length ≤ 2 ^ 40) (hl : ∀ i, i < vs.length → (vs.getD i v0).b.xs.length ≤ 2 ^ 40 ∧ (vs.getD i v0).b.ys.length ≤ 2 ^ 40) :
    Calls Tryz.prog 16 #[.slice a vs.length c] w fun e w' => e = .returned (.slice (some ⟨w.heap.size, 0, none⟩) vs.length vs.length) ∧ (∃ gs, CopyV w' w.heap.size gs (bodies vs)) ∧ RowV w' w.heap.size vs.length ∧ Below w.heap.size w w' := by
  have HS : Hid (SlV w a vs) := h
  have HL : Hid (∀ i, i < vs.length → (vs.getD i v0).b.xs.length ≤ 2 ^ 40 ∧ (vs.getD i v0).b.ys.length ≤ 2 ^ 40) := hl
  clear h hl
  have hmk := make_row (P := Tryz.prog) Tryz.underlying42 infoVote vs.length (by omega) (by omega)
  go_enter Tryz.func16, Tryz.ntmps16
  go_wp2
  clear hmk
  go_loopw [4] (fun i wr => ∃ (k : Nat) (gs : List (Nat × Nat)), k ≤ vs.length ∧ i = .int .i64 k ∧ Hid (CopyV wr w.heap.size gs ((bodies vs).take k) ∧ RowV wr w.heap.size vs.length ∧ Below w.heap.size w wr)) (fun i _ => vs.length - (intOf i).toNat)
  case atStart => exact ⟨0, [], Nat.zero_le _, rfl, by rw [List.take_zero]; exact CopyV.nil (RowV.made w vs.length).lt, RowV.made w _, (Below.refl _ _).alloc (Nat.le_refl _) _⟩
  case round =>
    obtain ⟨k, gs, hk, rfl, IV⟩ := hrel
    have PL := bodies_len vs
    by_cases hlt : k < vs.length
    · have hki : (k : Int) < (vs.length : Int) := by omega
      rcases HS.out.below IV.out.2.2 with hh | ⟨b, off, rfl, _, hh⟩
      · rw [hh] at hlt; simp at hlt
      obtain ⟨⟨d0, d1, d2, d3, d4, d5, d6, d7⟩, s1, s2⟩ := hh k hlt
      obtain ⟨lx1, lx2⟩ := HL.out k hlt
      have NX : Hid ((bodies vs).take (k + 1) = (bodies vs).take k ++ [(vs.getD k v0).body]) := by
        show _ = _
        rw [List.take_succ_eq_append_getElem (by omega), ← bodies_getD]
        simp [List.getD, PL, hlt]
      have LK : Hid (((bodies vs).take k).length = k) := by show _ = _; simp [PL]; omega
      have SX : Hid (Sl wr (vs.getD k v0).a1 (vs.getD k v0).b.xs ∧ Sl wr (vs.getD k v0).a2 (vs.getD k v0).b.ys) := ⟨s1, s2⟩
      clear hh s1 s2 PL
      generalize vs.getD k v0 = x at d0 d1 d2 d3 d4 d5 d6 d7 lx1 lx2 NX SX
      obtain ⟨xbal, ⟨xn, xp, xq, xxs, xys, xv, xk⟩, xa1, xc1, xa2, xc2⟩ := x
      simp only [VM.body] at d0 d1 d2 d3 d4 d5 d6 d7 lx1 lx2 NX SX
      go_wp2_with fail
      refine (toVote xbal xn xp xq xa1 xa2 xc1 xc2 xxs xys xv xk wr SX.out.1 SX.out.2 lx1 lx2).mono ?_
      rintro e w1 ⟨g1, g2, rfl, ho, hb⟩
      have RP : Hid (RowV w1 w.heap.size vs.length) := IV.out.2.1.below hb IV.out.2.1.lt
      have CN : Hid (CopyV (set8 w1 w.heap.size (k * 8) (vmOf (g1, g2) (xbal, ⟨xn, xp, xq, xxs, xys, xv, xk⟩))) w.heap.size (gs ++ [(g1, g2)]) ((bodies vs).take (k + 1))) := by
        have h := IV.out.1.snoc (x := (xbal, ⟨xn, xp, xq, xxs, xys, xv, xk⟩)) hb ho RP.out (by rw [LK.out]; exact hlt)
        rw [LK.out, ← NX.out] at h
        exact h
      have B1 : Hid (Below w.heap.size w w1) := IV.out.2.2.trans (hb.mono IV.out.2.2.size)
      have FF := fun o => RP.out.frozen o
      obtain ⟨u0, t0, _⟩ := RP.out.cell (k * 8) (by omega)
      obtain ⟨u1, t1, _⟩ := RP.out.cell (k * 8 + 1) (by omega)
      obtain ⟨u2, t2, _⟩ := RP.out.cell (k * 8 + 2) (by omega)
      obtain ⟨u3, t3, _⟩ := RP.out.cell (k * 8 + 3) (by omega)
      obtain ⟨u4, t4, _⟩ := RP.out.cell (k * 8 + 4) (by omega)
      obtain ⟨u5, t5, _⟩ := RP.out.cell (k * 8 + 5) (by omega)
      obtain ⟨u6, t6, _⟩ := RP.out.cell (k * 8 + 6) (by omega)
      obtain ⟨u7, t7, _⟩ := RP.out.cell (k * 8 + 7) (by omega)
      clear ho hb d0 d1 d2 d3 d4 d5 d6 d7
      go_wp2
      go_roundw
      case rel => exact ⟨k + 1, gs ++ [(g1, g2)], by omega, by go_num, CN.out, set8_row RP.out _ (vmOf (g1, g2) (xbal, ⟨xn, xp, xq, xxs, xys, xv, xk⟩)), set8_below B1.out (Nat.le_refl _) _ (vmOf (g1, g2) (xbal, ⟨xn, xp, xq, xxs, xys, xv, xk⟩))⟩
      case measure => simp [intOf]; omega
    · have hki : ¬ (k : Int) < (vs.length : Int) := by omega
      obtain rfl : k = vs.length := by omega
      go_wp2_with fail
      go_ret
      have := IV.out
      rw [List.take_of_length_le (by omega)] at this
      exact ⟨rfl, ⟨gs, this.1⟩, this.2.1, this.2.2⟩
end Go.Proofs.YtildonpdmmliaaaGreatDoor.Own
