/-
  Own text: what laws.toVoteS makes, as a list of one's own.
-/
import Derived.Test.YtbbbfnfpmaogoaaOwnR
import Derived.Test.YtbbbfnfpmaogoaaVoteOps
namespace Go.Proofs.Ytbbbfnfpmaogoaa.Own
open Go.RowKit
set_option linter.unusedVariables false
set_option linter.unusedSimpArgs false

/-- Votes of which each has at most n boxes in its lists. -/
def Short (n : Nat) (bs : List V) : Prop := ∀ i, i < bs.length → (bs.getD i (0, e0)).2.xs.length ≤ n ∧ (bs.getD i (0, e0)).2.ys.length ≤ n
theorem Short.of {n : Nat} {vs : List VM} (h : vs.length + sumV vs vs.length ≤ n) : Short n (bodies vs) := fun i hi => by
  rw [bodies_len] at hi
  rw [bodies_getD]
  have := sumV_at vs hi
  show (vs.getD i v0).b.xs.length ≤ n ∧ (vs.getD i v0).b.ys.length ≤ n
  omega
theorem Short.vm {n : Nat} {L : List VM} (h : Short n (bodies L)) : ∀ i, i < L.length → (L.getD i v0).b.xs.length ≤ n ∧ (L.getD i v0).b.ys.length ≤ n := fun i hi => by
  have := h i (by rw [bodies_len]; exact hi)
  rw [bodies_getD] at this
  exact this
theorem Short.mono {n m : Nat} {bs : List V} (h : Short n bs) (hm : n ≤ m) : Short m bs := fun i hi => ⟨Nat.le_trans (h i hi).1 hm, Nat.le_trans (h i hi).2 hm⟩

theorem toR (a : Option Addr) (c : Nat) (vs : List VM) (w : World) (h : SlV w a vs) (hn : vs.length ≤ 2 ^ 30) (hl : Short (2 ^ 30) (bodies vs)) :
    Calls Try.prog 36 #[.slice a vs.length c] w fun e w' => ∃ v L, e = .returned v ∧ OwnR w' w.heap.size w'.heap.size v L ∧ bodies L = bodies vs ∧ VLs L ∧ Below w.heap.size w w' := by
  refine (toVoteS a c vs w h (by omega) (fun i hi => by have := hl.vm i hi; omega)).mono ?_
  rintro e w' ⟨rfl, ⟨gs, hc⟩, hr, hb⟩
  refine ⟨_, vmsOf gs (bodies vs), rfl, OwnR.ofCopy hc hr (Nat.le_refl _) (by rw [bodies_len]), vmsOf_bodies _ _, CopyV.vls (fun i hi => by have := hl i hi; omega), hb⟩
end Go.Proofs.Ytbbbfnfpmaogoaa.Own
