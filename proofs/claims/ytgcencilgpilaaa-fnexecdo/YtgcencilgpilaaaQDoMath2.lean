/-
  Own text: what each put leaves, by lists. Nothing of the program.
-/
import Derived.Test.YtgcencilgpilaaaPk8
namespace Go.Proofs.Ytgcencilgpilaaa.Own
open Go.RowKit
set_option linter.unusedVariables false

theorem okAll_apart {f : Int → Bool} {ys : List P2} (h : okAll f ys = true) {i j : Nat} (hij : i < j) (hj : j < ys.length) : (ys.getD i (0, 0)).1 ≠ (ys.getD j (0, 0)).1 := by
  have h1 := okAll_iff.1 h j hj
  simp only [okAt, Bool.and_eq_true, Bool.not_eq_true'] at h1
  have h2 := h1.2
  intro e
  rw [Bool.eq_false_iff] at h2
  apply h2
  rw [List.any_eq_true]
  refine ⟨ys.getD i (0, 0), ?_, by simpa using e⟩
  rw [List.mem_take_iff_getElem]
  exact ⟨i, by omega, by simp [List.getD, show i < ys.length by omega]⟩

theorem okAll_other {f : Int → Bool} {ys : List P2} (h : okAll f ys = true) {i j : Nat} (hne : i ≠ j) (hi : i < ys.length) (hj : j < ys.length) : (ys.getD i (0, 0)).1.toNat ≠ (ys.getD j (0, 0)).1.toNat := by
  obtain ⟨a, ha, ea⟩ := okAll_box h i hi
  obtain ⟨b, hb, eb⟩ := okAll_box h j hj
  have : (ys.getD i (0, 0)).1 ≠ (ys.getD j (0, 0)).1 := by
    rcases Nat.lt_or_gt_of_ne hne with h' | h'
    · exact okAll_apart h h' hj
    · exact (okAll_apart h h' hi).symm
  rw [ea, eb] at this ⊢
  omega

theorem doPuts_at {bs ys : List P2} (hb : bs.length = 4) (hy : okAll numOk ys = true) {i : Nat} (hi : i < ys.length) :
    (doPuts bs ys).getD (ys.getD i (0, 0)).1.toNat (0, 0) = (min 1000000 ((bs.getD (ys.getD i (0, 0)).1.toNat (0, 0)).1 + 1), (ys.getD i (0, 0)).2) := by
  have key : ∀ j, i + 1 + j ≤ ys.length → (doPuts bs (ys.take (i + 1 + j))).getD (ys.getD i (0, 0)).1.toNat (0, 0) = (min 1000000 ((bs.getD (ys.getD i (0, 0)).1.toNat (0, 0)).1 + 1), (ys.getD i (0, 0)).2) := by
    intro j
    induction j with
    | zero =>
      intro _
      rw [Nat.add_zero, doPuts_succ _ _ _ hi]
      have e : (doPuts bs (ys.take i)).getD (ys.getD i (0, 0)).1.toNat (0, 0) = bs.getD (ys.getD i (0, 0)).1.toNat (0, 0) := by
        refine doPuts_other (fun p hp e => ?_)
        rw [List.mem_take_iff_getElem] at hp
        obtain ⟨m, hm, rfl⟩ := hp
        have := okAll_other hy (i := m) (j := i) (by omega) (by omega) hi
        apply this
        rw [← e]
        simp [List.getD, show m < ys.length by omega]
      obtain ⟨a, ha, ea⟩ := okAll_box hy i hi
      unfold put1
      rw [getD_set2 _ _ _ _ (by rw [doPuts_length, hb, ea]; omega), if_pos rfl, e]
    | succ j ih =>
      intro h
      rw [show i + 1 + (j + 1) = (i + 1 + j) + 1 by omega, doPuts_succ _ _ _ (by omega), put1_other (okAll_other hy (by omega) (by omega) hi)]
      exact ih (by omega)
  have := key (ys.length - (i + 1)) (by omega)
  rwa [show i + 1 + (ys.length - (i + 1)) = ys.length by omega, List.take_length] at this

/-- A box that was looked into and put into. -/
def bothR (bs xs ys : List P2) : Bool := xs.any fun x => ys.any fun y => x.1 == y.1 && decide ((bs.getD x.1.toNat (0, 0)).1 < 1000000)
theorem both_stale {bs xs ys : List P2} {v k : Int} (hb : boxOk bs = true) (he : execOk xs ys v k = true) (h : bothR bs xs ys = true) (hf : execFresh bs xs ys v k = true) : execFresh (doPuts bs ys) xs ys v k = false := by
  simp only [bothR, List.any_eq_true, Bool.and_eq_true, beq_iff_eq, decide_eq_true_eq] at h
  obtain ⟨x, hx, y, hy, e, hlt⟩ := h
  obtain ⟨i, hi, rfl⟩ := List.getElem_of_mem hy
  have hat := doPuts_at (bs := bs) (boxOk_len hb) (execOk_puts he) hi
  rw [show ys.getD i (0, 0) = ys[i] by simp [List.getD, hi], ← e] at hat
  simp only [execFresh, Bool.and_eq_true, List.all_eq_true] at hf
  have h1 := hf.2 x hx
  rw [Bool.eq_false_iff]
  intro hg
  simp only [execFresh, Bool.and_eq_true, List.all_eq_true] at hg
  have h2 := hg.2 x hx
  simp only [freshAt, beq_iff_eq] at h1 h2
  rw [hat] at h2
  simp only at h2
  omega
end Go.Proofs.Ytgcencilgpilaaa.Own
