/-
  Own text: plain mathematics of programs behind one another.
-/
import Derived.Test.YtbcnmmofccackaaDoorTouch
import Derived.Test.YtbcnmmofccackaaDoorProgOk2
namespace Go.Proofs.YtbcnmmofccackaaDoor.Own
set_option linter.unusedVariables false
set_option linter.unusedSimpArgs false

theorem boxesTo_mem (f : Q4 → Int → Bool) (xs : List Q4) (i : Int) : ∀ n : Nat, ((boxesTo f xs n).any fun x => x == i) = true ↔ (0 ≤ i ∧ i < n ∧ xs.any (fun p => f p i) = true)
  | 0 => by simp [boxesTo]; omega
  | n + 1 => by
    have ih := boxesTo_mem f xs i n
    simp only [boxesTo, List.any_append, Bool.or_eq_true]
    rw [ih]
    cases h : xs.any (fun p => f p (n : Int)) with
    | true =>
      simp only [if_true, List.any_cons, List.any_nil, Bool.or_false, beq_iff_eq]
      constructor
      · rintro (⟨h1, h2, h3⟩ | h1)
        · exact ⟨h1, by omega, h3⟩
        · subst h1; exact ⟨by omega, by omega, h⟩
      · rintro ⟨h1, h2, h3⟩
        by_cases e : (n : Int) = i
        · exact .inr e
        · exact .inl ⟨h1, by omega, h3⟩
    | false =>
      simp only [Bool.false_eq_true, if_false, List.any_nil, or_false]
      constructor
      · rintro ⟨h1, h2, h3⟩
        exact ⟨h1, by omega, h3⟩
      · rintro ⟨h1, h2, h3⟩
        refine ⟨h1, ?_, h3⟩
        by_cases e : i = n
        · exfalso
          subst e
          rw [h] at h3
          cases h3
        · omega
theorem boxes_both (f : Q4 → Int → Bool) (xs zs : List Q4) (i : Nat) (hi : i < 4) : ((boxesTo f (xs ++ zs) 4).any fun x => x == (i : Int)) = (((boxesTo f xs 4).any fun x => x == (i : Int)) || ((boxesTo f zs 4).any fun x => x == (i : Int))) := by
  rw [Bool.eq_iff_iff, Bool.or_eq_true, boxesTo_mem, boxesTo_mem, boxesTo_mem, List.any_append, Bool.or_eq_true]
  constructor
  · rintro ⟨h1, h2, h | h⟩
    · exact .inl ⟨h1, h2, h⟩
    · exact .inr ⟨h1, h2, h⟩
  · rintro (⟨h1, h2, h⟩ | ⟨h1, h2, h⟩)
    · exact ⟨h1, h2, .inl h⟩
    · exact ⟨h1, h2, .inr h⟩
theorem progOk_both {xs zs : List Q4} (h1 : progOk xs = true) (h2 : progOk zs = true) : progOk (xs ++ zs) = decide ((xs ++ zs).length ≤ 10) := by
  simp only [progOk, Bool.and_eq_true] at h1 h2 ⊢
  rw [List.all_append, h1.2, h2.2]; simp
theorem beq_comm4 (xs zs : List Q4) : (xs == zs) = (zs == xs) := by
  rw [Bool.eq_iff_iff]; simp only [beq_iff_eq]; exact eq_comm
theorem anyI_succ {xs : List Int} {k : Nat} (n : Int) (h : k < xs.length) : ((xs.take (k + 1)).any fun p => p == n) = (((xs.take k).any fun p => p == n) || xs.getD k 0 == n) := by
  rw [List.take_succ_eq_append_getElem h, List.any_append]
  simp [List.getD, h]
end Go.Proofs.YtbcnmmofccackaaDoor.Own
