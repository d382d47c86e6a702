/-
  Own text: when votes are right, and when two lists of votes are one. Nothing of the program but what its callers' contracts name.
-/
import Derived.Test.YtbbbfnfpmaogoaaVoteMem
import Derived.Test.YtbbbfnfpmaogoaaEntOkI
import Derived.Test.YtbbbfnfpmaogoaaBalB
namespace Go.Proofs.Ytbbbfnfpmaogoaa.Own
open Go.RowKit
set_option linter.unusedVariables false

/-- An entry that is not there. -/
def noneE (e : EB) : Bool := likeE e.n false (e.p, e.q) (0, 0) e.xs e.ys [] [] e.v e.k 0 0
/-- An entry that is right. -/
def rightE (e : EB) : Bool := entOk e.n e.p e.q e.xs e.ys e.v e.k
/-- A vote that is right, or none. -/
def voteOk (x : V) : Bool := if x.1 = 0 then noneE x.2 else isBal x.1 && rightE x.2
def votesOk (bs : List V) : Bool := decide (bs.length ≤ 40) && bs.all voteOk
/-- A vote that nobody can have whose last ballot is m. -/
def barsV (m : Int) (x : V) : Bool := if x.1 == 0 && noneE x.2 then false else !isBal x.1 || decide (m < x.1) || !rightE x.2
def votesUpto (m : Int) (bs : List V) : Bool := decide (bs.length ≤ 40) && !bs.any (barsV m)
def accOk (m : Int) (bs : List V) : Bool := decide (0 ≤ m) && decide (m ≤ 3000) && votesOk bs && bs.all fun x => decide (x.1 ≤ m)
theorem bars_eq {m : Int} (hm : 0 ≤ m) (x : V) : barsV m x = !(voteOk x && decide (x.1 ≤ m)) := by
  obtain ⟨b, e⟩ := x
  unfold barsV voteOk
  by_cases h : b = 0
  · subst h
    have hb : isBal 0 = false := by decide
    simp [hb, hm]
  · have hb : (b == 0) = false := by simpa using h
    simp only [hb, h, if_false, Bool.false_and, Bool.not_and, Bool.false_eq_true]
    by_cases hl : m < b
    · have : ¬ b ≤ m := by omega
      simp [hl, this]
    · have : b ≤ m := by omega
      simp [hl, this]
theorem bars_top (x : V) : barsV 3000 x = !voteOk x := by
  rw [bars_eq (by omega)]
  congr 1
  obtain ⟨b, e⟩ := x
  unfold voteOk
  by_cases h : b = 0
  · subst h; simp
  · simp only [h, if_false]
    cases hb : isBal b with
    | false => simp
    | true =>
      have := (isBal_iff.1 hb).2
      simp [this]
theorem votesUpto_top (bs : List V) : votesUpto 3000 bs = votesOk bs := by
  unfold votesUpto votesOk
  congr 1
  rw [show barsV 3000 = fun x => !voteOk x from funext bars_top]
  induction bs with
  | nil => rfl
  | cons x xs ih => simp [ih]
theorem votesUpto_acc {m : Int} (hm : 0 ≤ m) (bs : List V) : votesUpto m bs = (votesOk bs && bs.all fun x => decide (x.1 ≤ m)) := by
  unfold votesUpto votesOk
  rw [show barsV m = fun x => !(voteOk x && decide (x.1 ≤ m)) from funext (bars_eq hm), Bool.and_assoc]
  congr 1
  induction bs with
  | nil => rfl
  | cons x xs ih =>
    simp only [List.any_cons, List.all_cons, Bool.not_or, Bool.not_not, ih]
    cases voteOk x <;> cases decide (x.1 ≤ m) <;> simp
theorem accOk_upto (m : Int) (bs : List V) : accOk m bs = (decide (0 ≤ m) && decide (m ≤ 3000) && votesUpto m bs) := by
  unfold accOk
  by_cases h : 0 ≤ m
  · rw [votesUpto_acc h]; simp only [Bool.and_assoc]
  · simp [h]
theorem accOk_iff {m : Int} {bs : List V} (h : accOk m bs = true) : 0 ≤ m ∧ m ≤ 3000 ∧ votesOk bs = true ∧ ∀ x, x ∈ bs → x.1 ≤ m := by
  simp [accOk] at h
  exact ⟨h.1.1.1, h.1.1.2, h.1.2, fun x hx => h.2 x.1 x.2 hx⟩

/-- Two votes are one. -/
def sameV (x y : V) : Bool := x.1 == y.1 && likeE x.2.n y.2.n (x.2.p, x.2.q) (y.2.p, y.2.q) x.2.xs x.2.ys y.2.xs y.2.ys x.2.v x.2.k y.2.v y.2.k
def sameVs (xs ys : List V) : Bool := decide (xs.length = ys.length) && (List.range xs.length).all fun i => sameV (xs.getD i (0, e0)) (ys.getD i (0, e0))
theorem sameVs_len {xs ys : List V} (h : xs.length ≠ ys.length) : sameVs xs ys = false := by simp [sameVs, h]
theorem sameVs_not {xs ys : List V} {i : Nat} (hi : i < xs.length) (h : sameV (xs.getD i (0, e0)) (ys.getD i (0, e0)) = false) : sameVs xs ys = false := by
  unfold sameVs
  have : ((List.range xs.length).all fun i => sameV (xs.getD i (0, e0)) (ys.getD i (0, e0))) = false := by
    rw [Bool.eq_false_iff]
    intro e
    rw [List.all_eq_true] at e
    have := e i (List.mem_range.2 hi)
    rw [h] at this
    cases this
  rw [this, Bool.and_false]
theorem sameVs_all {xs ys : List V} (hl : xs.length = ys.length) (h : ∀ i, i < xs.length → sameV (xs.getD i (0, e0)) (ys.getD i (0, e0)) = true) : sameVs xs ys = true := by
  unfold sameVs
  rw [Bool.and_eq_true]
  refine ⟨by simpa using hl, ?_⟩
  rw [List.all_eq_true]
  exact fun i hi => h i (List.mem_range.1 hi)
theorem allV_at {α : Type} {p : α → Bool} {l : List α} (d : α) (h : ∀ i, i < l.length → p (l.getD i d) = true) : l.all p = true := by
  rw [List.all_eq_true]
  intro x hx
  obtain ⟨i, hi, rfl⟩ := List.getElem_of_mem hx
  have := h i hi
  simpa [List.getD, hi] using this
theorem allV_not {α : Type} {p : α → Bool} {l : List α} (d : α) {i : Nat} (hi : i < l.length) (h : p (l.getD i d) = false) : l.all p = false := by
  rw [Bool.eq_false_iff]
  intro e
  rw [List.all_eq_true] at e
  have := e (l.getD i d) (by simp [List.getD, hi])
  rw [h] at this
  cases this
theorem anyV_at {α : Type} {p : α → Bool} {l : List α} (d : α) (h : ∀ i, i < l.length → p (l.getD i d) = false) : l.any p = false := by
  rw [Bool.eq_false_iff]
  intro e
  rw [List.any_eq_true] at e
  obtain ⟨x, hx, e⟩ := e
  obtain ⟨i, hi, rfl⟩ := List.getElem_of_mem hx
  have := h i hi
  simp [List.getD, hi] at this
  rw [this] at e
  cases e
theorem anyV_hit {α : Type} {p : α → Bool} {l : List α} (d : α) {i : Nat} (hi : i < l.length) (h : p (l.getD i d) = true) : l.any p = true := by
  rw [List.any_eq_true]
  exact ⟨l.getD i d, by simp [List.getD, hi], h⟩
end Go.Proofs.Ytbbbfnfpmaogoaa.Own
