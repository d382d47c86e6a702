/-
  Own text: lists of votes of a length that the walks take; copies that are kept.
-/
import Derived.Test.YtfifiobcmdmefaaVoteOps
import Derived.Test.YtfifiobcmdmefaaEqVote
namespace Go.Proofs.Ytfifiobcmdmefaa.Own
open Go.RowKit
set_option linter.unusedVariables false

/-- What came in is of a length that the walks take. -/
def VM0 (vs : List VM) : Prop := ∀ i, i < vs.length → (vs.getD i v0).b.xs.length ≤ maxLen ∧ (vs.getD i v0).b.ys.length ≤ maxLen
def VL0 (vs : List VM) : Prop := ∀ i, i < vs.length → (vs.getD i v0).b.xs.length ≤ 2 ^ 40 ∧ (vs.getD i v0).b.ys.length ≤ 2 ^ 40
theorem VL0.ofSum {vs : List VM} {n : Nat} (h : sumV vs vs.length ≤ n) (hn : n ≤ 2 ^ 40) : VL0 vs := fun i hi => by
  have := sumV_at vs hi
  exact ⟨by omega, by omega⟩
theorem VL0.vms {vs : List VM} (h : VL0 vs) (gs : List (Nat × Nat)) : VL0 (vmsOf gs (bodies vs)) := fun i hi => by
  rw [vmsOf_len] at hi
  rw [vmsOf_at gs _ hi, bodies_getD]
  rw [bodies_len] at hi
  exact h i hi

theorem CopyV.keep {w w' : World} {N b : Nat} {gs : List (Nat × Nat)} {bs : List V} (h : CopyV w b gs bs) (hk : KeepFrom N w w') (hN : N ≤ b) : CopyV w' b gs bs := by
  have hb : w'.heap[b]? = w.heap[b]? := hk.2 b hN
  have e := fun o => World.cell?_of_block (w := w) (w' := w') (a := ⟨b, o, none⟩) hb
  have O : ∀ i, i < bs.length → RunOwn w' (b + 1) (gs.getD i (0, 0)).1 (gs.getD i (0, 0)).2 (bs.getD i (0, e0)).2.xs (bs.getD i (0, e0)).2.ys := fun i hi => (h.own i hi).keep hk (by have := (h.own i hi).1; omega) (by have := (h.own i hi).2.1; omega)
  refine ⟨h.len, by rw [hk.1]; exact h.lt, fun i hi => ?_, O, h.asc⟩
  have c := (h.cell i hi).1
  refine ⟨?_, .inr ⟨_, _, rfl, (O i hi).2.2.2.1⟩, .inr ⟨_, _, rfl, (O i hi).2.2.2.2.1⟩⟩
  rw [e, e, e, e, e, e, e, e]; exact c

theorem vls_of {vs : List VM} (h : VL0 vs) (gs : List (Nat × Nat)) : VLs (vmsOf gs (bodies vs)) := CopyV.vls fun i hi => by rw [bodies_len] at hi; rw [bodies_getD]; exact h i hi
end Go.Proofs.Ytfifiobcmdmefaa.Own
