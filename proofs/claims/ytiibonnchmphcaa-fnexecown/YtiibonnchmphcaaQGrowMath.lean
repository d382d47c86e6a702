/-
  Own text: a program with an instruction more, and the empty program: plain mathematics. Nothing of the program.
-/
import Derived.Test.YtiibonnchmphcaaQSerialMath
namespace Go.Proofs.Ytiibonnchmphcaa.Own
open Go.RowKit
set_option linter.unusedVariables false


theorem inBox_ok {bs : List P2} {xs : List Q4} {s : RunSt} (hb : boxOk bs = true) (h : Inv bs xs s) (m : Nat) (hm : m < 4) : numOk (inBox bs s.puts m) = true := by
  unfold inBox
  split
  · rename_i hh
    have hl := idx_lt hh
    obtain ⟨j, _, _, hv, _⟩ := h.pt (s.puts.getD (idxBox s.puts m) (0, 0)) (by simp [List.getD, hl])
    exact hv
  · have h' := boxOk_iff.1 hb
    have := h'.2 m (by omega)
    simp only [boxOk1, Bool.and_eq_true] at this
    exact this.2

/-- A program with an instruction more that looks. -/
theorem grow_load {bs : List P2} {xs : List Q4} {m : Nat} (hc : (execRun bs xs).code = 0) (hl : xs.length < 10) (hm : m < 4) :
    (execRun bs xs).reads.length ≤ (execRun bs (xs ++ [(1, 3, (m : Int), 0)])).reads.length ∧ (execRun bs (xs ++ [(1, 3, (m : Int), 0)])).reads.length ≤ (execRun bs xs).reads.length + 1 ∧ (execRun bs (xs ++ [(1, 3, (m : Int), 0)])).puts.length = (execRun bs xs).puts.length ∧ (∀ i, i < (execRun bs xs).reads.length → (execRun bs (xs ++ [(1, 3, (m : Int), 0)])).reads.getD i (0, 0) = (execRun bs xs).reads.getD i (0, 0)) := by
  have h2 : (boxOk bs && progOk xs) = true := by
    cases e : boxOk bs && progOk xs with
    | true => rfl
    | false => rw [execRun_code.2 e] at hc; cases hc
  simp only [Bool.and_eq_true] at h2
  obtain ⟨hb, hp⟩ := h2
  have hz : insOk (1, 3, (m : Int), 0) = true := by rw [insOk_1, regOk_of m hm]; rfl
  have hp2 : progOk (xs ++ [(1, 3, (m : Int), 0)]) = true := by
    simp only [progOk, Bool.and_eq_true, decide_eq_true_eq, List.all_append, List.all_cons, List.all_nil, Bool.and_true] at hp ⊢
    exact ⟨by simp; omega, hp.2, hz⟩
  have iv := inv_of (bs := bs) hp
  rw [execRun_is hb hp] at hc ⊢
  rw [execRun_is hb hp2]
  rw [outR_code] at hc
  obtain ⟨e, he, hr, _⟩ := run_append bs xs [(1, 3, (m : Int), 0)] 0 initR
  rw [hr, if_pos hc]
  generalize runR bs xs 0 initR = s at hc iv
  by_cases hel : e = xs.length
  · subst hel
    have hg : (xs ++ [(1, 3, (m : Int), 0)]).getD xs.length q0 = (1, 3, (m : Int), 0) := by simp [List.getD]
    rw [run_step (by simp) hc (by rw [hg]; simp), hg, run_end (by simp)]
    have es : stepR bs s (1, 3, (m : Int), 0) = setReg { s with reads := lookR bs s.reads s.puts m } 3 (inBox bs s.puts m) := by simp [stepR]
    have nk := inBox_ok hb iv m hm
    have ec : (stepR bs s (1, 3, (m : Int), 0)).code = 0 := by rw [es]; simp [setReg, nk, hc]
    rw [outR_reads, outR_reads, outR_puts, outR_puts, if_pos ec, if_pos hc, es]
    simp only [setReg]
    rcases lookR_cases bs s.reads s.puts m with e1 | ⟨_, _, e1⟩
    · rw [e1]; exact ⟨Nat.le_refl _, by omega, by simp, fun _ _ => rfl⟩
    · rw [e1]
      refine ⟨by simp, by simp, by simp, fun i hi => ?_⟩
      simp [List.getD, List.getElem?_append_left hi]
  · rw [run_end (by simp; omega)]
    exact ⟨Nat.le_refl _, by omega, by simp, fun _ _ => rfl⟩
theorem execRun_nil {bs : List P2} (hb : boxOk bs = true) : execRun bs [] = ⟨[], [], 0, 0⟩ := by
  rw [execRun_is hb rfl, run_end (by simp)]
  rfl
theorem execDo_nil {bs : List P2} (hb : boxOk bs = true) : execDo bs [] [] 0 0 = bs := by
  simp [execDo, hb, doPuts, execOk, endOk, numOk, okAll]
theorem execFresh_nil {bs : List P2} (hb : boxOk bs = true) : execFresh bs [] [] 0 0 = true := by
  simp [execFresh, hb, execOk, endOk, numOk, okAll]
theorem code_ok {bs : List P2} {xs : List Q4} (hc : (execRun bs xs).code = 0) : boxOk bs = true := by
  cases e : boxOk bs && progOk xs with
  | true => simp only [Bool.and_eq_true] at e; exact e.1
  | false => rw [execRun_code.2 e] at hc; cases hc
end Go.Proofs.Ytiibonnchmphcaa.Own
