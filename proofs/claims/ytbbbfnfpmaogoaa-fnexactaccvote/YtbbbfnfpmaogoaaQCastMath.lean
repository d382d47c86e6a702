/-
  Own text, by program (gen_speccast.py): what a cast vote makes of votes.
-/
import Derived.Test.YtbbbfnfpmaogoaaQSpecList
import Derived.Test.YtbbbfnfpmaogoaaQOwnLPut
namespace Go.Proofs.Ytbbbfnfpmaogoaa.Own
open Go.RowKit
set_option linter.unusedVariables false
set_option linter.unusedSimpArgs false

/-- Votes with one put at a place, the list made long enough. -/
def castB (bs : List V) (s : Nat) (x : V) : List V := (bs ++ List.replicate (s + 1 - bs.length) (0, e0)).set s x
theorem bodies_pad (us : List VM) (k : Nat) : bodies (padV us k) = bodies us ++ List.replicate k (0, e0) := by
  simp only [bodies, padV, List.map_append, List.map_replicate]
  rfl
theorem bodies_set (us : List VM) (i : Nat) (y : VM) : bodies (us.set i y) = (bodies us).set i y.body := by simp [bodies, List.map_set]
def castOk (m bal slot : Int) (e : EB) : Bool := promOk m bal && ((decide (0 ≤ slot) && decide (slot < 40)) && rightE e)
def CastPost (m bal slot : Int) (xb : EB) (bs : List V) (B : Nat) (w0 : World) (e : Ending) (w' : World) : Prop := ∃ lv us', e = .returned (.tuple #[.agg #[.int .i64 (if castOk m bal slot xb then bal else m), lv], .bool (castOk m bal slot xb)]) ∧ OwnL w' B lv us' ∧ bodies us' = (if castOk m bal slot xb then castB bs slot.toNat (bal, xb) else bs) ∧ Below B w0 w'
theorem Sl.sameB {w w' : World} {a : Option Addr} {xs : List P2} (h : Sl w a xs) (hs : w.heap.size ≤ w'.heap.size) (hb : ∀ p, a = some p → p.block < w.heap.size → w'.heap[p.block]? = w.heap[p.block]?) : Sl w' a xs := by
  rcases h with h | ⟨b, off, rfl, h⟩
  · exact .inl h
  · exact .inr ⟨b, off, rfl, h.block hs (hb _ rfl h.1)⟩
/-- A block that holds none of it has turned. -/
theorem OwnL.onlyOut {w w' : World} {B b : Nat} {v : Value} {vs : List VM} (h : OwnL w B v vs) (on : Only b w w') (hn : v.ownBlock ≠ some b ∧ ∀ i, i < vs.length → blk1 (vs.getD i v0) ≠ some b ∧ blk2 (vs.getD i v0) ≠ some b) : OwnL w' B v vs := by
  refine ⟨⟨h.row.1, ?_⟩, fun i hi => (h.one i hi).blk (Nat.le_of_eq on.size.symm) fun c e => on.block c ?_, h.out, h.all⟩
  · rcases h.row.2 with h2 | ⟨g, cap, cur, hv, hg, hh, r⟩
    · exact .inl h2
    · exact .inr ⟨g, cap, cur, hv, hg, by rw [on.block g (fun e => hn.1 (by rw [hv, ← e]; rfl))]; exact hh, r⟩
  · have := hn.2 i hi
    intro e2
    rw [e2] at e
    rcases e with e | e
    · exact this.1 e
    · exact this.2 e
end Go.Proofs.Ytbbbfnfpmaogoaa.Own
