/-
  Own text: an acceptor in memory, and what is done with it, in one form.
-/
import Derived.Test.YtmcpefikmcaemaaAccOps
namespace Go.Proofs.Ytmcpefikmcaemaa.Own
open Go.RowKit
set_option linter.unusedVariables false

structure AM where
  m : Int
  a : Option Addr
  c : Nat
  vs : List VM
def AM.sz (x : AM) : Nat := x.vs.length + sumV x.vs x.vs.length
/-- It came in. -/
def InA (w : World) (x : AM) : Prop := SlV w x.a x.vs ∧ x.vs.length ≤ maxLen ∧ VM0 x.vs
theorem InA.below {w w' : World} {x : AM} (h : InA w x) (hb : Below w.heap.size w w') : InA w' x := ⟨h.1.below hb, h.2⟩
theorem AM.small {x : AM} (h : x.sz ≤ 1048576) : x.vs.length ≤ 2 ^ 40 ∧ VL0 x.vs := by
  unfold AM.sz at h
  exact ⟨by omega, VL0.ofSum (n := 1048576) (by omega) (by decide)⟩
/-- A copy of one's own. -/
def OwnA (w : World) (g : Nat × List (Nat × Nat)) (x : AM) : Prop := CopyV w g.1 g.2 (bodies x.vs)
theorem OwnA.below {w w' : World} {g : Nat × List (Nat × Nat)} {x : AM} (h : OwnA w g x) (hb : Below w.heap.size w w') : OwnA w' g x := CopyV.below h hb

theorem szA (x : AM) (left : Int) (w : World) (h : InA w x) (h0 : 0 ≤ left) (h1 : left ≤ 2 ^ 60) :
    Calls Try.prog 41 #[.agg #[.int .i64 x.m, .slice x.a x.vs.length x.c], .int .i64 left] w fun e w' => e = .returned (.int .i64 (if left < (x.sz : Nat) then -1 else left - (x.sz : Nat))) ∧ Below w.heap.size w w' :=
  szAcc x.m x.a x.c x.vs left w h.1 h.2.1 h.2.2 h0 h1
theorem toA (x : AM) (w : World) (h : InA w x) (hs : x.sz ≤ 1048576) :
    Calls Try.prog 42 #[.agg #[.int .i64 x.m, .slice x.a x.vs.length x.c]] w fun e w' => ∃ g, e = .returned (.agg #[.int .i64 x.m, .slice (some ⟨g.1, 0, none⟩) x.vs.length x.vs.length]) ∧ OwnA w' g x ∧ Below w.heap.size w w' := by
  refine (toAcc x.m x.a x.c x.vs w h.1 (AM.small hs).1 (AM.small hs).2).mono ?_
  rintro e w' ⟨g, gs, rfl, _, ho, _, hb⟩
  exact ⟨(g, gs), rfl, ho, hb⟩
theorem eqA (x : AM) (g g' : Nat × List (Nat × Nat)) (w : World) (h : OwnA w g x) (h' : OwnA w g' x) (hs : x.sz ≤ 1048576) :
    Calls Try.prog 43 #[.agg #[.int .i64 x.m, .slice (some ⟨g.1, 0, none⟩) x.vs.length x.vs.length], .agg #[.int .i64 x.m, .slice (some ⟨g'.1, 0, none⟩) x.vs.length x.vs.length]] w fun e w' => e = .returned (.bool true) ∧ Below w.heap.size w w' := by
  have h := eqAcc x.m (some ⟨g.1, 0, none⟩) (some ⟨g'.1, 0, none⟩) x.vs.length x.vs.length (vmsOf g.2 (bodies x.vs)) (vmsOf g'.2 (bodies x.vs)) w (CopyV.sl h) (CopyV.sl h') (by rw [vmsOf_bodies, vmsOf_bodies]) (by rw [vmsOf_len, bodies_len]; exact (AM.small hs).1) ((AM.small hs).2.vms g.2)
  rw [vmsOf_len, vmsOf_len, bodies_len] at h
  exact h
theorem vls_of {vs : List VM} (h : VL0 vs) (gs : List (Nat × Nat)) : VLs (vmsOf gs (bodies vs)) := CopyV.vls fun i hi => by rw [bodies_len] at hi; rw [bodies_getD]; exact h i hi
end Go.Proofs.Ytmcpefikmcaemaa.Own
