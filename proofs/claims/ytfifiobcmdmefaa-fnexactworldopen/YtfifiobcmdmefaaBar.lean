/-
  Own text: of the blocks that were there none but one has turned. Nothing of the program.
-/
import Derived.Test.YtfifiobcmdmefaaBase
namespace Go.Proofs.Ytfifiobcmdmefaa.Own
open Go.RowKit

/-- Of the blocks that were there none but rb has turned. -/
structure Bar (rb : Nat) (w w' : World) : Prop where
  os : w'.os = w.os
  tape : w'.tape = w.tape
  output : w'.output = w.output
  size : w.heap.size ≤ w'.heap.size
  block : ∀ k, k < w.heap.size → k ≠ rb → w'.heap[k]? = w.heap[k]?

theorem Bar.refl (rb : Nat) (w : World) : Bar rb w w := ⟨rfl, rfl, rfl, Nat.le_refl _, fun _ _ _ => rfl⟩
theorem Bar.trans {rb : Nat} {a b c : World} (h : Bar rb a b) (k : Bar rb b c) : Bar rb a c :=
  ⟨k.os.trans h.os, k.tape.trans h.tape, k.output.trans h.output, Nat.le_trans h.size k.size, fun i hi hn => (k.block i (Nat.lt_of_lt_of_le hi h.size) hn).trans (h.block i hi hn)⟩
theorem Bar.ofBelow {rb : Nat} {w w' : World} (h : Below w.heap.size w w') : Bar rb w w' := ⟨h.os, h.tape, h.output, h.size, fun k hk _ => h.block k hk⟩
theorem Bar.ofOnly {rb : Nat} {w w' : World} (h : Only rb w w') : Bar rb w w' := ⟨h.os, h.tape, h.output, Nat.le_of_eq h.size.symm, fun k _ hn => h.block k hn⟩
theorem Bar.setCell {rb : Nat} {a w : World} (h : Bar rb a w) {p : Addr} (hp : a.heap.size ≤ p.block) (v : Value) : Bar rb a (w.setCell p v) :=
  ⟨h.os, h.tape, h.output, by simpa [World.setCell] using h.size, fun k hk hn => by rw [Below.heap_setCell _ _ _ _ (by omega)]; exact h.block k hk hn⟩
theorem Bar.alloc {rb : Nat} {a w : World} (h : Bar rb a w) (o : Obj) : Bar rb a (w.alloc o) :=
  h.trans (Bar.ofBelow ((Below.refl _ _).alloc (Nat.le_refl _) _))
theorem Bar.below {rb B : Nat} {w w' : World} (h : Bar rb w w') (hB : B ≤ rb) (hB2 : B ≤ w.heap.size) : Below B w w' := ⟨h.os, h.tape, h.output, h.size, fun k hk => h.block k (by omega) (by omega)⟩
end Go.Proofs.Ytfifiobcmdmefaa.Own
