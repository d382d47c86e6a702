/-
  Own text: what impl.ExecSame does.
-/
import Derived.Test.YtbbbfnfpmaogoaaEqualR
import Derived.Test.YtbbbfnfpmaogoaaEqualP
namespace Go.Proofs.Ytbbbfnfpmaogoaa.Own
open Go.RowKit
set_option linter.unusedVariables false
set_option linter.unusedSimpArgs false

set_option maxRecDepth 100000 in
set_option maxHeartbeats 1000000 in
theorem implExecSame (a1 a2 b1 b2 : Option Addr) (c1 c2 d1 d2 : Nat) (xs ys zs us : List P2) (v k v' k' : Int) (w : World) (h1 : Sl w a1 xs) (h2 : Sl w a2 ys) (h3 : Sl w b1 zs) (h4 : Sl w b2 us)
    (n1 : xs.length ≤ 2 ^ 40) (n2 : ys.length ≤ 2 ^ 40) (n3 : zs.length ≤ 2 ^ 40) (n4 : us.length ≤ 2 ^ 40) :
    Calls Try.prog 108 #[.agg #[.slice a1 xs.length c1, .slice a2 ys.length c2, .int .i64 v, .int .i64 k], .agg #[.slice b1 zs.length d1, .slice b2 us.length d2, .int .i64 v', .int .i64 k']] w fun e w' => e = .returned (.bool (sameRun xs ys zs us v k v' k')) ∧ Below w.heap.size w w' := by
  have H1 : Hid (Sl w a1 xs) := h1
  have H2 : Hid (Sl w a2 ys) := h2
  have H3 : Hid (Sl w b1 zs) := h3
  have H4 : Hid (Sl w b2 us) := h4
  clear h1 h2 h3 h4
  have E : Hid (sameRun xs ys zs us v k v' k' = (k == k' && v == v' && xs == zs && ys == us)) := rfl
  obtain ⟨W, hW⟩ : ∃ W, W = (w.alloc (.cells #[.slice a1 xs.length c1, .slice a2 ys.length c2, .int .i64 v, .int .i64 k] 32)).alloc (.cells #[.slice b1 zs.length d1, .slice b2 us.length d2, .int .i64 v', .int .i64 k'] 32) := ⟨_, rfl⟩
  have hbW : Hid (Below w.heap.size w W) := by
    show Below _ _ _
    rw [hW]; exact ((Below.refl _ _).alloc (Nat.le_refl _) _).alloc (by simp) _
  have hsW : Hid (W.heap.size = w.heap.size + 2) := by show _ = _; rw [hW]; simp
  have g0 : Hid (W.heap[w.heap.size]? = some (.cells #[.slice a1 xs.length c1, .slice a2 ys.length c2, .int .i64 v, .int .i64 k] 32 (0, 0))) := by
    show _ = _
    rw [hW]; exact heap_new1 _ _ _
  have g1 : Hid (W.heap[w.heap.size + 1]? = some (.cells #[.slice b1 zs.length d1, .slice b2 us.length d2, .int .i64 v', .int .i64 k'] 32 (0, 0))) := by
    show _ = _
    rw [hW]; exact heap_new2 _ _ _
  have HW : Hid (W = _) := hW
  clear hW
  cases hk : (k == k') with
  | false =>
    go_enter Try.func108, Try.ntmps108
    go_wp2_with fail
    go_ret
    exact ⟨ret_bool (by rw [E.out, hk]; rfl), by rw [← HW.out]; exact hbW.out⟩
  | true =>
    cases hv : (v == v') with
    | false =>
      go_enter Try.func108, Try.ntmps108
      go_wp2_with fail
      go_ret
      exact ⟨ret_bool (by rw [E.out, hv]; simp), by rw [← HW.out]; exact hbW.out⟩
    | true =>
      have E2 : Hid (sameRun xs ys zs us v k v' k' = (xs == zs && ys == us)) := by show _ = _; rw [E.out, hk, hv]; rfl
      have C1 := equalRead a1 b1 c1 d1 xs zs W (H1.out.below hbW.out) (H3.out.below hbW.out) n1 n3
      generalize (xs == zs) = r at E2 C1
      have C1' : Hid (Calls Try.prog 134 #[.slice a1 xs.length c1, .slice b1 zs.length d1] W fun e w' => e = .returned (.bool r) ∧ Below W.heap.size W w') := C1
      clear C1
      go_enter Try.func108, Try.ntmps108
      go_wp2_with fail
      rw [← HW.out]
      refine C1'.out.mono ?_
      rintro e w1 ⟨rfl, b1'⟩
      have B1 : Hid (Below w.heap.size w w1) := hbW.out.trans (b1'.mono hbW.out.size)
      have q0 : w1.cell? ⟨w.heap.size, 1, none⟩ = some (.slice a2 ys.length c2) := by rw [b1'.cell (p := ⟨w.heap.size, 1, none⟩) (by show w.heap.size < _; have := hsW.out; omega), cell_heap g0.out]; rfl
      have q1 : w1.cell? ⟨w.heap.size + 1, 1, none⟩ = some (.slice b2 us.length d2) := by rw [b1'.cell (p := ⟨w.heap.size + 1, 1, none⟩) (by show w.heap.size + 1 < _; have := hsW.out; omega), cell_heap g1.out]; rfl
      clear b1'
      cases r with
      | false =>
        go_wp2_with fail
        go_ret
        exact ⟨ret_bool (by rw [E2.out]; rfl), B1.out⟩
      | true =>
        go_wp2_with fail
        refine (equalPut a2 b2 c2 d2 ys us w1 (H2.out.below B1.out) (H4.out.below B1.out) n2 n4).mono ?_
        rintro e w2 ⟨rfl, b2'⟩
        have B2 : Hid (Below w.heap.size w w2) := B1.out.trans (b2'.mono B1.out.size)
        clear b2'
        generalize (ys == us) = r2 at E2
        go_wp2_with fail
        go_ret
        exact ⟨ret_bool (by rw [E2.out]; rfl), B2.out⟩
end Go.Proofs.Ytbbbfnfpmaogoaa.Own
