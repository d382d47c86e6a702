/-
  Own text: what impl.CertOpen and spec.CertOpen do.
-/
import Derived.Test.YtgcencilgpilaaaOpen
import Derived.Test.YtgcencilgpilaaaOpenI
import Derived.Test.YtgcencilgpilaaaOwnD
import Derived.Test.YtgcencilgpilaaaBlk
namespace Go.Proofs.Ytgcencilgpilaaa.Own
open Go.RowKit
set_option linter.unusedVariables false
set_option linter.unusedSimpArgs false

set_option maxHeartbeats 1000000 in
theorem specCertOpen (w : World) : Calls Try.prog 44 #[] w fun e w' => ∃ g, e = .returned (.agg #[.int .i64 0, .slice (some ⟨g, 0, none⟩) 4 4, .slice none 0 0]) ∧ StB zero4 [] w.heap.size w' (some ⟨g, 0, none⟩) none ∧ Below w.heap.size w w' := by
  obtain ⟨W, hW⟩ : ∃ W, W = w.alloc (.cells #[.int .i64 0, .slice none 0 0, .slice none 0 0] 70) := ⟨_, rfl⟩
  have BW : Hid (Below w.heap.size w W) := by show Below _ _ _; rw [hW]; exact (Below.refl _ _).alloc (Nat.le_refl _) _
  have SW : Hid (W.heap.size = w.heap.size + 1) := by show _ = _; rw [hW]; simp
  have G0 : Hid (Blk W w.heap.size #[.int .i64 0, .slice none 0 0, .slice none 0 0] 70) := by show Blk _ _ _ _; rw [hW]; exact Blk.new _ _ _
  have HW : Hid (W = _) := hW
  clear hW
  go_enter Try.func44, Try.ntmps44
  go_wp2_with fail
  rw [← HW.out]
  refine (specOpen W).mono ?_
  rintro e w1 ⟨rfl, hw1⟩
  have b1 : Below W.heap.size W w1 := by rw [hw1]; exact (Below.refl _ _).alloc (Nat.le_refl _) _
  have at1 : w1.heap[W.heap.size]? = some (.cells zeros8 38 (0, 0)) := by rw [hw1]; exact heap_new _ _
  have le : w.heap.size + 1 ≤ W.heap.size := by have := SW.out; omega
  clear hw1
  generalize W.heap.size = g at at1 le ⊢
  have B1 : Hid (Below w.heap.size w w1) := BW.out.trans (b1.mono BW.out.size)
  obtain ⟨q0, q1, q2⟩ := (G0.out.keep b1).cells3
  have fi := (G0.out.keep b1).frozen
  have LE : Hid (w.heap.size + 1 ≤ g) := le
  have AT : Hid (w1.heap[g]? = some (.cells zeros8 38 (0, 0))) := at1
  clear b1 le at1
  go_wp2
  refine bodyPost_ret (v := .agg #[.int .i64 0, .slice (some ⟨g, 0, none⟩) 4 4, .slice none 0 0]) (by simp [results, Try.results44, go_sem, q0, q1, q2]) rfl ⟨g, rfl, ?_, ?_⟩
  · have hne : g ≠ w.heap.size := by have := LE.out; omega
    have hg : ∀ (v1 v2 v3 : Value), (((w1.setCell ⟨w.heap.size, 0, none⟩ v1).setCell ⟨w.heap.size, 1, none⟩ v2).setCell ⟨w.heap.size, 2, none⟩ v3).heap[g]? = some (.cells zeros8 38 (0, 0)) := fun v1 v2 v3 => by
      rw [Below.heap_setCell _ _ _ _ hne, Below.heap_setCell _ _ _ _ hne, Below.heap_setCell _ _ _ _ hne]; exact AT.out
    have hg' := hg (.int .i64 0) (.slice (some ⟨g, 0, none⟩) 4 4) (.slice none 0 0)
    have lt := (zeros_at hg').1
    exact ⟨.inr ⟨g, rfl, by have := LE.out; omega, zeros_at hg', frozen_heap hg'⟩, .inl rfl, fun _ _ _ e => by (cases e), fun x e => by (injection e with e; subst e; exact ⟨by have := LE.out; show _ ≤ g; omega, lt⟩), fun x e => by (cases e)⟩
  · exact ((B1.out.setCell (Nat.le_refl _) _).setCell (Nat.le_refl _) _).setCell (Nat.le_refl _) _

set_option maxHeartbeats 1000000 in
theorem implCertOpen (w : World) : Calls Try.prog 45 #[] w fun e w' => ∃ g, e = .returned (.agg #[.int .i64 0, .slice (some ⟨g, 0, none⟩) 4 4, .slice none 0 0]) ∧ StB zero4 [] w.heap.size w' (some ⟨g, 0, none⟩) none ∧ Below w.heap.size w w' := by
  obtain ⟨W, hW⟩ : ∃ W, W = w.alloc (.cells #[.int .i64 0, .slice none 0 0, .slice none 0 0] 70) := ⟨_, rfl⟩
  have BW : Hid (Below w.heap.size w W) := by show Below _ _ _; rw [hW]; exact (Below.refl _ _).alloc (Nat.le_refl _) _
  have SW : Hid (W.heap.size = w.heap.size + 1) := by show _ = _; rw [hW]; simp
  have G0 : Hid (Blk W w.heap.size #[.int .i64 0, .slice none 0 0, .slice none 0 0] 70) := by show Blk _ _ _ _; rw [hW]; exact Blk.new _ _ _
  have HW : Hid (W = _) := hW
  clear hW
  go_enter Try.func45, Try.ntmps45
  go_wp2_with fail
  rw [← HW.out]
  refine (implOpen W).mono ?_
  rintro e w1 ⟨rfl, at1, b1, _⟩
  have le : w.heap.size + 1 ≤ W.heap.size + 1 := by have := SW.out; omega
  generalize W.heap.size + 1 = g at at1 le ⊢
  have B1 : Hid (Below w.heap.size w w1) := BW.out.trans (b1.mono BW.out.size)
  obtain ⟨q0, q1, q2⟩ := (G0.out.keep b1).cells3
  have fi := (G0.out.keep b1).frozen
  have LE : Hid (w.heap.size + 1 ≤ g) := le
  have AT : Hid (w1.heap[g]? = some (.cells zeros8 38 (0, 0))) := at1
  clear b1 le at1
  go_wp2
  refine bodyPost_ret (v := .agg #[.int .i64 0, .slice (some ⟨g, 0, none⟩) 4 4, .slice none 0 0]) (by simp [results, Try.results45, go_sem, q0, q1, q2]) rfl ⟨g, rfl, ?_, ?_⟩
  · have hne : g ≠ w.heap.size := by have := LE.out; omega
    have hg : ∀ (v1 v2 v3 : Value), (((w1.setCell ⟨w.heap.size, 0, none⟩ v1).setCell ⟨w.heap.size, 1, none⟩ v2).setCell ⟨w.heap.size, 2, none⟩ v3).heap[g]? = some (.cells zeros8 38 (0, 0)) := fun v1 v2 v3 => by
      rw [Below.heap_setCell _ _ _ _ hne, Below.heap_setCell _ _ _ _ hne, Below.heap_setCell _ _ _ _ hne]; exact AT.out
    have hg' := hg (.int .i64 0) (.slice (some ⟨g, 0, none⟩) 4 4) (.slice none 0 0)
    have lt := (zeros_at hg').1
    exact ⟨.inr ⟨g, rfl, by have := LE.out; omega, zeros_at hg', frozen_heap hg'⟩, .inl rfl, fun _ _ _ e => by (cases e), fun x e => by (injection e with e; subst e; exact ⟨by have := LE.out; show _ ≤ g; omega, lt⟩), fun x e => by (cases e)⟩
  · exact ((B1.out.setCell (Nat.le_refl _) _).setCell (Nat.le_refl _) _).setCell (Nat.le_refl _) _

end Go.Proofs.Ytgcencilgpilaaa.Own
