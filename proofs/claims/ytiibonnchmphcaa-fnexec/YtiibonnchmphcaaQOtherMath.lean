/-
  Own text: a run on boxes that are other ones but in what it looked into; an array that marks what was looked into. Nothing of the program.
-/
import Derived.Test.YtiibonnchmphcaaPk3
import Derived.Test.YtiibonnchmphcaaPk4
namespace Go.Proofs.Ytiibonnchmphcaa.Own
open Go.RowKit
set_option linter.unusedVariables false
set_option linter.unusedSimpArgs false

theorem other_ok {bs cur : List P2} {z : P2} (hb : boxOk bs = true) (hl : cur.length = 4) (hz : boxOk1 z = true) (h : ∀ i, i < 4 → cur.getD i (0, 0) = z ∨ cur.getD i (0, 0) = bs.getD i (0, 0)) : boxOk cur = true := by
  have h' := boxOk_iff.1 hb
  refine boxOk_iff.2 ⟨hl, fun i hi => ?_⟩
  rcases h i (by omega) with e | e
  · rw [e]; exact hz
  · rw [e]; exact h'.2 i (by omega)
/-- Where those alone were changed that the run did not look into it is the same run, and fresh. -/
theorem other_same {bs cur : List P2} {xs : List Q4} {z : P2} (hb : boxOk bs = true) (hp : progOk xs = true) (hl : cur.length = 4) (hz : boxOk1 z = true)
    (h : ∀ i, i < 4 → cur.getD i (0, 0) = if hasBox (execRun bs xs).reads i then bs.getD i (0, 0) else z) :
    execRun cur xs = execRun bs xs ∧ execFresh cur (execRun bs xs).reads (execRun bs xs).puts (execRun bs xs).val (execRun bs xs).code = true := by
  have ok : boxOk cur = true := other_ok hb hl hz (fun i hi => by
    rw [h i hi]
    split
    · exact .inr rfl
    · exact .inl rfl)
  have e : execRun cur xs = execRun bs xs := execRun_same hb ok hp (fun j hj hh => by rw [h j hj, if_pos hh])
  refine ⟨e, ?_⟩
  rw [← e]
  exact execRun_fresh ok hp
theorem execRun_reads4 (bs : List P2) (xs : List Q4) (k : Nat) (hk : k < (execRun bs xs).reads.length) : ∃ j : Nat, j < 4 ∧ ((execRun bs xs).reads.getD k (0, 0)).1 = (j : Int) := by
  cases e : boxOk bs && progOk xs with
  | false => rw [execRun_form e] at hk; simp at hk
  | true =>
    simp only [Bool.and_eq_true] at e
    rw [execRun_is e.1 e.2, outR_reads] at hk ⊢
    obtain ⟨j, hj, hp, _⟩ := (inv_of (bs := bs) e.2).rd ((runR bs xs 0 initR).reads.getD k (0, 0)) (by simp [List.getD, hk])
    exact ⟨j, hj, by rw [hp]⟩
theorem hasBox_succ {rs : List P2} {k : Nat} (hk : k < rs.length) (i : Nat) : hasBox (rs.take (k + 1)) i = (hasBox (rs.take k) i || (rs.getD k (0, 0)).1 == (i : Int)) := by
  unfold hasBox
  rw [← List.take_append_getElem hk, List.any_append]
  simp [List.getD, hk]

/-- Four bools in block A: which boxes stand in rs. -/
structure Saw (w : World) (A : Nat) (rs : List P2) : Prop where
  lt : A < w.heap.size
  free : ∀ o, w.frozen? ⟨A, o, none⟩ = false
  at4 : ∀ j, j < 4 → w.cell? ⟨A, j, none⟩ = some (.bool (hasBox rs j))
theorem Saw.turned {L : List Nat} {w w' : World} {A : Nat} {rs : List P2} (h : Saw w A rs) (ht : Turned L w w') (hA : A ∉ L) : Saw w' A rs :=
  ⟨Nat.lt_of_lt_of_le h.lt ht.size, fun o => by rw [World.frozen?_of_block (w := w) (a := ⟨A, o, none⟩) (ht.block A h.lt hA)]; exact h.free o, fun j hj => by rw [World.cell?_of_block (w := w) (a := ⟨A, j, none⟩) (ht.block A h.lt hA)]; exact h.at4 j hj⟩
theorem Saw.set {w : World} {A : Nat} {rs : List P2} {k j : Nat} (h : Saw w A (rs.take k)) (hk : k < rs.length) (hj : j < 4) (e : (rs.getD k (0, 0)).1 = (j : Int)) : Saw (w.setCell ⟨A, j, none⟩ (.bool true)) A (rs.take (k + 1)) := by
  refine ⟨by simpa [World.setCell] using h.lt, fun o => by simpa using h.free o, fun i hi => ?_⟩
  rw [hasBox_succ hk, e]
  have hc := h.at4 j hj
  have hi' := h.at4 i hi
  by_cases hij : i = j
  · subst hij
    rw [show (w.setCell ⟨A, i, none⟩ (.bool true)).cell? ⟨A, i, none⟩ = some (.bool true) by simp [go_sem, hc]]
    simp
  · have hne : ¬ j = i := fun e => hij e.symm
    rw [show (w.setCell ⟨A, j, none⟩ (.bool true)).cell? ⟨A, i, none⟩ = w.cell? ⟨A, i, none⟩ by simp [go_sem, hij, hne], hi']
    have : ((j : Int) == (i : Int)) = false := by simp; omega
    rw [this, Bool.or_false]
/-- Boxes of which those below k that were not looked into are z. -/
def Mixed (bs rs : List P2) (z : P2) (k : Nat) (cur : List P2) : Prop := cur.length = 4 ∧ ∀ i, i < 4 → cur.getD i (0, 0) = if i < k ∧ hasBox rs i = false then z else bs.getD i (0, 0)
theorem Mixed.init {bs rs : List P2} {z : P2} (h : bs.length = 4) : Mixed bs rs z 0 bs := ⟨h, fun i _ => by rw [if_neg (by omega)]⟩
theorem Mixed.keep {bs rs : List P2} {z : P2} {k : Nat} {cur : List P2} (h : Mixed bs rs z k cur) (hh : hasBox rs k = true) : Mixed bs rs z (k + 1) cur := by
  refine ⟨h.1, fun i hi => ?_⟩
  rw [h.2 i hi]
  by_cases e : i = k
  · subst e; rw [if_neg (by simp [hh]), if_neg (by simp [hh])]
  · have : (i < k ∧ hasBox rs i = false) ↔ (i < k + 1 ∧ hasBox rs i = false) := ⟨fun x => ⟨by omega, x.2⟩, fun x => ⟨by omega, x.2⟩⟩
    simp only [this]
theorem Mixed.put {bs rs : List P2} {z : P2} {k : Nat} {cur : List P2} (h : Mixed bs rs z k cur) (hk : k < 4) (hh : hasBox rs k = false) : Mixed bs rs z (k + 1) (cur.set k z) := by
  refine ⟨by rw [List.length_set]; exact h.1, fun i hi => ?_⟩
  have hl := h.1
  by_cases e : i = k
  · subst e
    rw [if_pos ⟨by omega, hh⟩]
    simp [List.getD, hl, hi]
  · have : (i < k ∧ hasBox rs i = false) ↔ (i < k + 1 ∧ hasBox rs i = false) := ⟨fun x => ⟨by omega, x.2⟩, fun x => ⟨by omega, x.2⟩⟩
    have h2 := h.2 i hi
    simp only [this] at h2
    rw [← h2]
    simp [List.getD, Ne.symm e]
theorem Mixed.done {bs rs : List P2} {z : P2} {cur : List P2} (h : Mixed bs rs z 4 cur) : cur.length = 4 ∧ ∀ i, i < 4 → cur.getD i (0, 0) = if hasBox rs i then bs.getD i (0, 0) else z := by
  refine ⟨h.1, fun i hi => ?_⟩
  rw [h.2 i hi]
  cases e : hasBox rs i with
  | true => simp
  | false => simp [hi]
end Go.Proofs.Ytiibonnchmphcaa.Own
