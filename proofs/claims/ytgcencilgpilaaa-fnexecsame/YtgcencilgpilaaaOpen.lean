/-
  Own text: what spec.BoxOpen and (impl.boxArray).list do.
-/
import Derived.Test.YtgcencilgpilaaaMem
namespace Go.Proofs.Ytgcencilgpilaaa.Own
open Go.RowKit

def zeros8 : Array Value := #[.int .i64 0, .int .i64 0, .int .i64 0, .int .i64 0, .int .i64 0, .int .i64 0, .int .i64 0, .int .i64 0]

theorem mk4 (w : World) : (Instr.makeSlice 23 (.int .i64 4) (.int .i64 4)).run Try.prog w = .ok (.slice (some ⟨w.heap.size, 0, none⟩) 4 4) (w.alloc (.cells zeros8 38)) := by kernel_rfl
theorem szBox : (Try.prog.info? 38).map (·.size) = some 2 := by kernel_rfl

set_option maxHeartbeats 400000 in
theorem specOpen (w : World) : Calls Try.prog 98 #[] w fun e w' => e = .returned (.slice (some ⟨w.heap.size, 0, none⟩) 4 4) ∧ w' = w.alloc (.cells zeros8 38) := by
  have hmk := mk4
  go_enter Try.func98, Try.ntmps98
  go_wp2
  go_ret
  exact ⟨rfl, rfl⟩

def arr8 (x0 x1 x2 x3 x4 x5 x6 x7 : Int) : Array Value := #[.int .i64 x0, .int .i64 x1, .int .i64 x2, .int .i64 x3, .int .i64 x4, .int .i64 x5, .int .i64 x6, .int .i64 x7]

theorem copyAll (x0 x1 x2 x3 x4 x5 x6 x7 : Int) (w : World) :
    (Builtin.copy_ #[23, 23] 3 #[.slice (some ⟨w.heap.size + 1, 0, none⟩) 4 4, .slice (some ⟨w.heap.size, 0, none⟩) 4 4]).run Try.prog
      ((w.alloc (.cells #[.int .i64 x0, .int .i64 x1, .int .i64 x2, .int .i64 x3, .int .i64 x4, .int .i64 x5, .int .i64 x6, .int .i64 x7] 104)).alloc (.cells zeros8 38)) =
    .ok (.int .i64 4) (((w.alloc (.cells #[.int .i64 x0, .int .i64 x1, .int .i64 x2, .int .i64 x3, .int .i64 x4, .int .i64 x5, .int .i64 x6, .int .i64 x7] 104)).alloc (.cells zeros8 38)).setRow (w.heap.size + 1) (arr8 x0 x1 x2 x3 x4 x5 x6 x7)) := by
  refine (run_copy_fat (P := Try.prog) _ 23 23 3 38 (w.heap.size + 1) 0 4 4 ⟨w.heap.size, 0, none⟩ 4 4 2 zeros8 38 (arr8 x0 x1 x2 x3 x4 x5 x6 x7).toList Try.underlying23 szBox ?_ rfl ?_ (by simp [zeros8, arr8]) (by simp [arr8, Value.oneCell'])).trans ?_
  · exact heap_new2 _ _ _
  · intro j v h
    have e : (⟨w.heap.size, 0, none⟩ : Addr).add j = ⟨w.heap.size, j, none⟩ := by simp [Addr.add]; omega
    rw [e, cell_heap (heap_new1 _ _ _), ← h]
    simp [arr8]
  · simp [arr8, zeros8, goInt]

set_option maxHeartbeats 400000 in
theorem arrList (x0 x1 x2 x3 x4 x5 x6 x7 : Int) (w : World) : Calls Try.prog 65 #[.agg #[.int .i64 x0, .int .i64 x1, .int .i64 x2, .int .i64 x3, .int .i64 x4, .int .i64 x5, .int .i64 x6, .int .i64 x7]] w
    fun e w' => e = .returned (.slice (some ⟨w.heap.size + 1, 0, none⟩) 4 4) ∧ w'.heap[w.heap.size + 1]? = some (.cells (arr8 x0 x1 x2 x3 x4 x5 x6 x7) 38 (0, 0)) ∧ Below w.heap.size w w' ∧ w'.heap.size = w.heap.size + 2 := by
  have hmk := mk4
  have hcp := copyAll x0 x1 x2 x3 x4 x5 x6 x7 w
  go_enter Try.func65, Try.ntmps65
  go_wp2
  go_ret
  refine ⟨rfl, ?_, ?_, ?_⟩
  · rw [setRow_heap _ _ zeros8 _ 38 (0, 0)]
    exact heap_new2 _ _ _
  · exact below_setRow (((Below.refl _ _).alloc (Nat.le_refl _) _).alloc (by simp) _) (by omega) _
  · simp [World.setRow]

def zero4 : List (Int × Int) := [(0, 0), (0, 0), (0, 0), (0, 0)]

theorem zeros_at {w : World} {b : Nat} {t : TypeId} {f : Nat × Nat} (h : w.heap[b]? = some (.cells zeros8 t f)) : BoxAt w b 0 zero4 := by
  refine ⟨(Array.getElem?_eq_some_iff.1 h).1, fun i hi => ?_⟩
  rw [cell_heap h, cell_heap h]
  match i, hi with
  | 0, _ | 1, _ | 2, _ | 3, _ => simp [zeros8, zero4]

end Go.Proofs.Ytgcencilgpilaaa.Own
