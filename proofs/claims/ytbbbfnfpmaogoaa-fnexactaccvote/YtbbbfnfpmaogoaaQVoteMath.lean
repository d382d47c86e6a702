/-
  Own text: what AccVote answers.
-/
import Derived.Test.YtbbbfnfpmaogoaaQCastMath
import Derived.Test.YtbbbfnfpmaogoaaQPromR
namespace Go.Proofs.Ytbbbfnfpmaogoaa.Own
open Go.RowKit
set_option linter.unusedVariables false
set_option linter.unusedSimpArgs false

def voM (m bal slot : Int) (x : EB) (bs : List V) : Int := if accOk m bs then (if castOk m bal slot x then bal else m) else 0
def voB (m bal slot : Int) (x : EB) (bs : List V) : List V := if accOk m bs then (if castOk m bal slot x then castB bs slot.toNat (bal, x) else bs) else []
def voO (m bal slot : Int) (x : EB) (bs : List V) : Bool := accOk m bs && castOk m bal slot x
theorem accOk_len {m : Int} {bs : List V} (h : accOk m bs = true) : bs.length ≤ 40 := by
  have := (accOk_iff h).2.2.1
  unfold votesOk at this
  simp only [Bool.and_eq_true, decide_eq_true_eq] at this
  exact this.1
theorem castOk_place {m bal slot : Int} {x : EB} (h : castOk m bal slot x = true) : 0 ≤ slot ∧ slot < 40 := by
  unfold castOk at h
  simp only [Bool.and_eq_true, decide_eq_true_eq] at h
  exact h.2.1
theorem castB_len (bs : List V) (s : Nat) (x : V) : (castB bs s x).length = max bs.length (s + 1) := by
  simp [castB]
  omega
theorem castB_at (bs : List V) (s i : Nat) (x : V) : (castB bs s x).getD i (0, e0) = if s = i then x else bs.getD i (0, e0) := by
  unfold castB
  simp only [List.getD_eq_getElem?_getD, List.getElem?_set, List.length_append, List.length_replicate]
  by_cases e : s = i
  · rw [if_pos e, if_pos e, if_pos (by omega)]
    rfl
  · rw [if_neg e, if_neg e]
    by_cases hi : i < bs.length
    · rw [List.getElem?_append_left hi]
    · rw [List.getElem?_append_right (Nat.le_of_not_lt hi), List.getElem?_eq_none (Nat.le_of_not_lt hi), List.getElem?_replicate]
      split <;> rfl
theorem castB_short {n : Nat} {bs : List V} {s : Nat} {x : V} (h : Short n bs) (hx : x.2.xs.length ≤ n ∧ x.2.ys.length ≤ n) : Short n (castB bs s x) := fun i hi => by
  rw [castB_at]
  split
  · exact hx
  · exact h.getD i
theorem voB_short {n : Nat} {m bal slot : Int} {x : EB} {bs : List V} (h : Short n bs) (hx : x.xs.length ≤ n ∧ x.ys.length ≤ n) : Short n (voB m bal slot x bs) := by
  unfold voB
  split
  · split
    · exact castB_short h hx
    · exact h
  · intro i hi; simp at hi
theorem voB_len (m bal slot : Int) (x : EB) (bs : List V) : (voB m bal slot x bs).length ≤ 40 := by
  unfold voB
  split
  · rename_i h
    have := accOk_len h
    split
    · rename_i h2
      have := castOk_place h2
      rw [castB_len]
      omega
    · exact this
  · simp
end Go.Proofs.Ytbbbfnfpmaogoaa.Own
