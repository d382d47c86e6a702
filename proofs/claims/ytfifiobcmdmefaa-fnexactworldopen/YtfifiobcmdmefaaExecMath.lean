/-
  Own text: when a run is right, by lists. Nothing of the program.
-/
import Derived.Test.YtfifiobcmdmefaaOkB
import Derived.Test.YtfifiobcmdmefaaProgOk2
namespace Go.Proofs.Ytfifiobcmdmefaa.Own
open Go.RowKit
set_option linter.unusedVariables false

abbrev P2 := Int × Int
def z2 : P2 := (0, 0)

/-- What stands at a place is of a box, right, and its box has not come ahead of it. -/
def okAt (f : Int → Bool) (xs : List P2) (i : Nat) : Bool := regOk (xs.getD i (0, 0)).1 && f (xs.getD i (0, 0)).2 && !((xs.take i).any fun p => p.1 == (xs.getD i (0, 0)).1)
def okAll (f : Int → Bool) (xs : List P2) : Bool := (List.range xs.length).all (okAt f xs)
theorem okAll_iff {f : Int → Bool} {xs : List P2} : okAll f xs = true ↔ ∀ i, i < xs.length → okAt f xs i = true := by
  simp [okAll, List.all_eq_true]
theorem okAll_false {f : Int → Bool} {xs : List P2} {i : Nat} (hi : i < xs.length) (h : okAt f xs i = false) : okAll f xs = false := by
  rw [Bool.eq_false_iff]
  intro e
  rw [okAll_iff.1 e i hi] at h
  cases h

def verOk (n : Int) : Bool := decide (0 ≤ n) && decide (n ≤ 1000000)
def endOk (k v : Int) (nr np : Nat) : Bool :=
  if k = 0 then numOk v else if k = 1 ∨ k = 2 then v == 0 && decide (np = 0) else if k = 3 then v == 0 && decide (np = 0) && decide (nr = 0) else false
/-- A run is right. -/
def execOk (xs ys : List P2) (v k : Int) : Bool := endOk k v xs.length ys.length && okAll verOk xs && okAll numOk ys

theorem endOk_0 (v : Int) (nr np : Nat) : endOk 0 v nr np = numOk v := rfl
theorem endOk_1 (v : Int) (nr np : Nat) : endOk 1 v nr np = (v == 0 && decide (np = 0)) := rfl
theorem endOk_2 (v : Int) (nr np : Nat) : endOk 2 v nr np = (v == 0 && decide (np = 0)) := rfl
theorem endOk_3 (v : Int) (nr np : Nat) : endOk 3 v nr np = (v == 0 && decide (np = 0) && decide (nr = 0)) := rfl
theorem endOk_no {k : Int} (v : Int) (nr np : Nat) (h : k ≠ 0 ∧ k ≠ 1 ∧ k ≠ 2 ∧ k ≠ 3) : endOk k v nr np = false := by
  obtain ⟨h0, h1, h2, h3⟩ := h
  simp [endOk, h0, h1, h2, h3]

/-- The boxes that have come, as marks. -/
def seen (xs : List P2) (k : Nat) (j : Nat) : Bool := (xs.take k).any fun p => p.1 == (j : Int)
theorem seen_zero (xs : List P2) (j : Nat) : seen xs 0 j = false := by simp [seen]
theorem seen_succ (xs : List P2) (k j : Nat) (h : k < xs.length) : seen xs (k + 1) j = (seen xs k j || (xs.getD k (0, 0)).1 == (j : Int)) := by
  unfold seen
  rw [List.take_succ_eq_append_getElem h, List.any_append]
  simp [List.getD, h]
theorem okAt_seen (f : Int → Bool) (xs : List P2) (k : Nat) (j : Nat) (hj : (xs.getD k (0, 0)).1 = (j : Int)) : okAt f xs k = (regOk (j : Int) && f (xs.getD k (0, 0)).2 && !seen xs k j) := by
  simp only [okAt, seen, hj]
end Go.Proofs.Ytfifiobcmdmefaa.Own
