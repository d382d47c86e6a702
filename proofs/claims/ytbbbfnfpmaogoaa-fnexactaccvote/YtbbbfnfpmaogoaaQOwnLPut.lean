/-
  Own text: one vote of a list that appends made is replaced by one that a call made.
-/
import Derived.Test.YtbbbfnfpmaogoaaPk5
namespace Go.Proofs.Ytbbbfnfpmaogoaa.Own
open Go.RowKit
set_option linter.unusedVariables false
set_option linter.unusedSimpArgs false

theorem C8.get {w : World} {g o : Nat} {x : VM} (h : C8 w g o x) (r : Nat) (hr : r < 8) : w.cell? ⟨g, o + r, none⟩ = x.cells.toList[r]? := by
  obtain ⟨h0, h1, h2, h3, h4, h5, h6, h7⟩ := h
  match r, hr with
  | 0, _ => exact h0
  | 1, _ => exact h1
  | 2, _ => exact h2
  | 3, _ => exact h3
  | 4, _ => exact h4
  | 5, _ => exact h5
  | 6, _ => exact h6
  | 7, _ => exact h7
theorem set8_heap {w : World} {g o : Nat} {cur : Array Value} {t : TypeId} (h : w.heap[g]? = some (.cells cur t (0, 0))) (y : VM) : ∃ cur', (set8 w g o y).heap[g]? = some (.cells cur' t (0, 0)) ∧ cur'.size = cur.size := by
  have hs : ∀ (u : World) (D : Array Value) (o : Nat) (v : Value), u.heap[g]? = some (.cells D t (0, 0)) → (u.setCell ⟨g, o, none⟩ v).heap[g]? = some (.cells (D.setIfInBounds o v) t (0, 0)) := fun u D o v h => by simp [World.setCell, Array.getElem?_modify, h]
  unfold set8
  exact ⟨_, hs _ _ _ _ (hs _ _ _ _ (hs _ _ _ _ (hs _ _ _ _ (hs _ _ _ _ (hs _ _ _ _ (hs _ _ _ _ (hs _ _ _ _ h))))))), by simp⟩
theorem set8_keep (w : World) (g o : Nat) (y : VM) (b : Nat) (hne : b ≠ g) : (set8 w g o y).heap[b]? = w.heap[b]? := by
  unfold set8
  rw [Below.heap_setCell _ _ _ _ hne, Below.heap_setCell _ _ _ _ hne, Below.heap_setCell _ _ _ _ hne, Below.heap_setCell _ _ _ _ hne, Below.heap_setCell _ _ _ _ hne, Below.heap_setCell _ _ _ _ hne, Below.heap_setCell _ _ _ _ hne, Below.heap_setCell _ _ _ _ hne]

theorem OwnL.put {w0 w : World} {B g : Nat} {v : Value} {vs : List VM} (h0 : OwnL w0 B v vs) (hb : Below w0.heap.size w0 w) {y : VM} (hy : OneOwn w w0.heap.size y) (hB : B ≤ w0.heap.size) (i : Nat) (hi : i < vs.length) (hg : v.ownBlock = some g) :
    OwnL (set8 w g (i * 8) y) B v (vs.set i y) := by
  have hne : vs ≠ [] := fun e => by rw [e] at hi; simp at hi
  obtain ⟨g', cap', hv', hcap', ho, hs⟩ := h0.vs hne
  obtain rfl : g' = g := by rw [hv'] at hg; simpa [Value.ownBlock] using hg
  obtain ⟨pv, ps⟩ := ho.put hs hb hy hB i hi
  have h := h0.keep hb
  have S := set8_size w g' (i * 8) y
  have len : (vs.set i y).length = vs.length := List.length_set
  have yb : ∀ b, (blk1 y = some b ∨ blk2 y = some b) → b ≠ g' := fun b e => by
    have := ho.lt
    rcases e with e | e
    · have := hy.b1 b e; omega
    · have := hy.b2 b e; omega
  refine ⟨?_, fun j hj => ?_, fun j hj k hk => ?_, ps.all⟩
  · obtain ⟨hl, hr⟩ := h.row
    rcases hr with ⟨e, _⟩ | ⟨g2, cap, cur, e, hbg, hh, hc1, hc2, hsz, htk⟩
    · rw [e] at hv'; cases hv'
    obtain rfl : g2 = g' := by rw [e] at hg; simpa [Value.ownBlock] using hg
    obtain ⟨cur', hh', hsz'⟩ := set8_heap (o := i * 8) hh y
    refine ⟨by rw [flat8_length], .inr ⟨g2, cap, cur', by rw [len]; exact e, hbg, hh', by rw [len]; exact hc1, hc2, by rw [hsz']; exact hsz, ?_⟩⟩
    rw [len]
    apply List.ext_getElem?
    intro j
    by_cases hj : j < vs.length * 8
    · rw [List.getElem?_take_of_lt hj]
      have hk : j / 8 < (vs.set i y).length := by rw [len]; omega
      have hr : j % 8 < 8 := Nat.mod_lt _ (by omega)
      have e1 := (pv.cell (j / 8) hk).get (j % 8) hr
      have e2 := flat8_get (vs.set i y) (j / 8) (j % 8) hk hr
      rw [show j / 8 * 8 + j % 8 = j by omega] at e1 e2
      rw [e2, ← e1, cell_heap hh']
      simp
    · rw [List.getElem?_eq_none (by rw [List.length_take]; omega), List.getElem?_eq_none (by rw [flat8_length, len]; omega)]
  · have hj' : j < vs.length := by rw [len] at hj; exact hj
    rw [getD_setV _ _ _ _ hi]
    by_cases e : i = j
    · rw [if_pos e]
      exact (hy.weaken hB).blk (Nat.le_of_eq S.symm) fun b eb => set8_keep _ _ _ _ _ (yb b eb)
    · rw [if_neg e]
      refine (h.one j hj').blk (Nat.le_of_eq S.symm) fun b eb => set8_keep _ _ _ _ _ fun e2 => ?_
      have o := h.out j hj' g' hg
      rcases eb with eb | eb
      · exact o.1 (by rw [← e2]; exact eb)
      · exact o.2 (by rw [← e2]; exact eb)
  · have ek : g' = k := by rw [hg] at hk; injection hk
    rw [← ek]
    exact ps.one j hj
end Go.Proofs.Ytbbbfnfpmaogoaa.Own
