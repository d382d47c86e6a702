/-
  Own text: impl.AccPromise and spec.AccPromise on an acceptor whose votes are a list of one's own.
-/
import Derived.Test.YtbbbfnfpmaogoaaQPromI
import Derived.Test.YtbbbfnfpmaogoaaPk10
namespace Go.Proofs.Ytbbbfnfpmaogoaa.Own
open Go.RowKit
set_option linter.unusedVariables false

def PromT (f : FuncId) (m bal : Int) (bs : List V) : Prop := ∀ (V : World) (B T : Nat) (v : Value) (L : List VM), OwnR V B T v L → VLs L → L.length ≤ 2 ^ 30 → bodies L = bs →
    Calls Try.prog f #[.agg #[.int .i64 m, v], .int .i64 bal] V fun e w' => ∃ la lc us, e = .returned (.tuple #[.agg #[.int .i64 (prM m bal bs), .slice la (List.length (α := VM) us) lc], .bool (prO m bal bs)]) ∧ OwnR w' V.heap.size w'.heap.size (.slice la us.length lc) us ∧ bodies us = prB m bs ∧ Below V.heap.size V w'
theorem promS (m bal : Int) (bs : List V) : PromT 24 m bal bs := fun V B T v L h l n hb => by
  obtain ⟨a, c, rfl, s⟩ := h.form
  subst hb
  refine (specPromise m a c L bal V s l n).mono ?_
  rintro e w' ⟨lv, us, rfl, ho, hu, hw⟩
  obtain ⟨la, lc, rfl, _⟩ := ho.form
  exact ⟨la, lc, us, rfl, ho, hu, hw⟩
theorem promI (m bal : Int) (bs : List V) : PromT 25 m bal bs := fun V B T v L h l n hb => by
  obtain ⟨a, c, rfl, s⟩ := h.form
  subst hb
  refine (implPromise m a c L bal V s l n).mono ?_
  rintro e w' ⟨lv, us, rfl, ho, hu, hw⟩
  obtain ⟨la, lc, rfl, _⟩ := ho.form
  exact ⟨la, lc, us, rfl, ho, hu, hw⟩
theorem prB_short {n : Nat} {m : Int} {bs : List V} (h : Short n bs) : Short n (prB m bs) := by
  unfold prB
  split
  · exact h
  · intro i hi; simp at hi
theorem prB_len (m : Int) (bs : List V) : (prB m bs).length ≤ 40 := by
  unfold prB
  split
  · rename_i h
    have := (accOk_iff h).2.2.1
    unfold votesOk at this
    simp only [Bool.and_eq_true, decide_eq_true_eq] at this
    exact this.1
  · simp
theorem steps40 {L : List VM} {bs : List V} (h : bodies L = bs) (hl : bs.length ≤ 41) (hs : Short (2 ^ 21) bs) : L.length ≤ 2 ^ 30 ∧ stepsV L L.length ≤ 2 ^ 30 := by
  have hl' : L.length ≤ 41 := by rw [← bodies_len, h]; exact hl
  have hs' : Short (2 ^ 21) (bodies L) := by rw [h]; exact hs
  refine ⟨by omega, ?_⟩
  have := stepsV_le L (6 + 2 ^ 23) (fun i hi => by have := hs'.vm i hi; unfold stepV; omega) L.length (Nat.le_refl _)
  have : L.length * (6 + 2 ^ 23) ≤ 41 * (6 + 2 ^ 23) := Nat.mul_le_mul_right _ hl'
  omega
theorem vl0_short {L : List VM} {bs : List V} (h : bodies L = bs) (hs : Short (2 ^ 21) bs) : VL0 L := fun i hi => by
  have hs' : Short (2 ^ 21) (bodies L) := by rw [h]; exact hs
  have := hs'.vm i hi
  omega
end Go.Proofs.Ytbbbfnfpmaogoaa.Own
