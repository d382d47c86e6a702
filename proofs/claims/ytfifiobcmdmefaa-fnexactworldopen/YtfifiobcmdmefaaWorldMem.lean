/-
  Own text: nodes in a row in memory: cells, stores, loads.
-/
import Derived.Test.YtfifiobcmdmefaaNodeSet
import Derived.Test.YtfifiobcmdmefaaNode0W
namespace Go.Proofs.Ytfifiobcmdmefaa.Own
open Go.RowKit
set_option linter.unusedVariables false
set_option linter.unusedSimpArgs false

/-- Stores into one row, from offset o on. -/
def put (w : World) (g o : Nat) : List (Nat × Value) → World
  | [] => w
  | p :: l => put (w.setCell ⟨g, o + p.1, none⟩ p.2) g o l
def putL (C : List Value) (l : List (Nat × Value)) : List Value := l.foldl (fun C p => C.set p.1 p.2) C
theorem put_size (g o : Nat) : ∀ l w, (put w g o l).heap.size = w.heap.size := by
  intro l
  induction l with
  | nil => intro w; rfl
  | cons p l ih => intro w; rw [put, ih]; simp [World.setCell]
theorem put_only (g o : Nat) : ∀ l w0 w, Only g w0 w → Only g w0 (put w g o l) := by
  intro l
  induction l with
  | nil => intro w0 w h; exact h
  | cons p l ih => intro w0 w h; exact ih _ _ (h.setCell _)
theorem put_frozen (g o : Nat) : ∀ l w, (∀ x, w.frozen? ⟨g, x, none⟩ = false) → ∀ x, (put w g o l).frozen? ⟨g, x, none⟩ = false := by
  intro l
  induction l with
  | nil => intro w h; exact h
  | cons p l ih => intro w h; exact ih _ (fun x => by simpa using h x)
theorem put_far (g o : Nat) : ∀ l w, (∀ p ∈ l, p.1 < 27) → ∀ x, (x < o ∨ o + 27 ≤ x) → (put w g o l).cell? ⟨g, x, none⟩ = w.cell? ⟨g, x, none⟩ := by
  intro l
  induction l with
  | nil => intro w _ x _; rfl
  | cons p l ih =>
    intro w hp x hx
    rw [put, ih _ (fun q hq => hp q (List.mem_cons_of_mem _ hq)) x hx]
    have := hp p (List.mem_cons_self ..)
    exact setCell_cell_other _ _ _ _ _ (by omega)
theorem put_cell (g o : Nat) : ∀ l w (C : List Value), C.length = 27 → (∀ j, j < 27 → w.cell? ⟨g, o + j, none⟩ = C[j]?) → (∀ p ∈ l, p.1 < 27) → ∀ j, j < 27 → (put w g o l).cell? ⟨g, o + j, none⟩ = (putL C l)[j]? := by
  intro l
  induction l with
  | nil => intro w C _ h _ j hj; exact h j hj
  | cons p l ih =>
    intro w C hC h hp j hj
    have hp0 := hp p (List.mem_cons_self ..)
    refine ih (w.setCell ⟨g, o + p.1, none⟩ p.2) (C.set p.1 p.2) (by simpa using hC) (fun i hi => ?_) (fun q hq => hp q (List.mem_cons_of_mem _ hq)) j hj
    rw [List.getElem?_set]
    by_cases e : p.1 = i
    · subst e
      rw [if_pos rfl, if_pos (by omega)]
      refine setCell_cell_same (u := C[p.1]'(by omega)) _ _ _ _ ?_
      rw [h _ hi]; simp
    · rw [if_neg e, setCell_cell_other _ _ _ _ _ (by omega)]
      exact h i hi

/-- Three nodes in a row. -/
structure NS (w : World) (g : Nat) (L : List (List Value)) : Prop where
  lt : g < w.heap.size
  fr : ∀ o, w.frozen? ⟨g, o, none⟩ = false
  len : ∀ i, i < L.length → (L.getD i []).length = 27
  cell : ∀ i, i < L.length → ∀ j, j < 27 → w.cell? ⟨g, i * 27 + j, none⟩ = (L.getD i [])[j]?
theorem NS.keep {w w' : World} {g : Nat} {L : List (List Value)} (h : NS w g L) (hb : Below w.heap.size w w') : NS w' g L :=
  ⟨Nat.lt_of_lt_of_le h.lt hb.size, fun o => by rw [hb.frozen (p := ⟨g, o, none⟩) h.lt]; exact h.fr o, h.len, fun i hi j hj => by rw [hb.cell (p := ⟨g, i * 27 + j, none⟩) h.lt]; exact h.cell i hi j hj⟩
theorem NS.only {w w' : World} {g b : Nat} {L : List (List Value)} (h : NS w g L) (ho : Only b w w') (hn : b ≠ g) : NS w' g L := by
  have e := ho.block g (fun x => hn x.symm)
  exact ⟨Nat.lt_of_lt_of_le h.lt (Nat.le_of_eq ho.size.symm), fun o => by rw [World.frozen?_of_block (w := w) (a := ⟨g, o, none⟩) e]; exact h.fr o, h.len, fun i hi j hj => by rw [World.cell?_of_block (w := w) (a := ⟨g, i * 27 + j, none⟩) e]; exact h.cell i hi j hj⟩
theorem getD_setL (L : List (List Value)) (i j : Nat) (C : List Value) (hi : i < L.length) : (L.set i C).getD j [] = if i = j then C else L.getD j [] := by
  simp only [List.getD_eq_getElem?_getD, List.getElem?_set]
  by_cases e : i = j
  · subst e; simp [hi]
  · simp [e]
theorem putL_len : ∀ (l : List (Nat × Value)) (C : List Value), (putL C l).length = C.length := by
  intro l
  induction l with
  | nil => intro C; rfl
  | cons p l ih => intro C; show (putL (C.set p.1 p.2) l).length = _; rw [ih]; simp
theorem NS.put {w : World} {g : Nat} {L : List (List Value)} (h : NS w g L) (i : Nat) (hi : i < L.length) (l : List (Nat × Value)) (hl : ∀ p ∈ l, p.1 < 27) : NS (put w g (i * 27) l) g (L.set i (putL (L.getD i []) l)) := by
  refine ⟨by rw [put_size]; exact h.lt, put_frozen _ _ _ _ h.fr, fun j hj => ?_, fun j hj k hk => ?_⟩
  · rw [List.length_set] at hj
    rw [getD_setL _ _ _ _ hi]
    split
    · rw [putL_len]; exact h.len i hi
    · exact h.len j hj
  · rw [List.length_set] at hj
    rw [getD_setL _ _ _ _ hi]
    split
    · rename_i e
      subst e
      exact put_cell _ _ _ _ _ (h.len i hi) (fun x hx => h.cell i hi x hx) hl k hk
    · rename_i e
      rw [put_far _ _ _ _ hl _ (by omega)]
      exact h.cell j hj k hk
theorem NS.range {w : World} {g : Nat} {L : List (List Value)} (h : NS w g L) (i : Nat) (hi : i < L.length) : w.rangeAt g (i * 27) (L.getD i []) := fun j v hv => by
  have hj : j < 27 := by
    have := (List.getElem?_eq_some_iff.1 hv).1
    rw [h.len i hi] at this; exact this
  rw [h.cell i hi j hj]; exact hv
/-- A node that has nothing but its number, as a list of cells. -/
def nZ (z : Int) : List Value := (nodeZ z).toList
theorem nodeLoadAt {w : World} {g o : Nat} {z : Int} (h : w.rangeAt g o (nZ z)) : (loadVar 104 ⟨g, o, none⟩).run Try.prog w = .ok (.agg (nodeZ z)) w := by
  have := run_loadVar_mid w g o 104 (nZ z) _ h Try.underlying104 rfl (by rw [nodeInfo z]; rfl)
  simpa [nZ] using this
/-- The three nodes of a new world. -/
def zL : List (List Value) := [nZ 0, nZ 1, nZ 2]
end Go.Proofs.Ytfifiobcmdmefaa.Own
