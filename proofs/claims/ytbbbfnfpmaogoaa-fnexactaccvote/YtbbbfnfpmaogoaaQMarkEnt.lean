/-
  Own text: what laws.markEntry does.
-/
import Derived.Test.YtbbbfnfpmaogoaaQMarkRunM
import Derived.Test.YtbbbfnfpmaogoaaPk2
namespace Go.Proofs.Ytbbbfnfpmaogoaa.Own
open Go.RowKit
set_option linter.unusedVariables false

set_option maxRecDepth 100000 in
set_option maxHeartbeats 1000000 in
theorem markEntB (n : Bool) (p q : Int) (a1 a2 : Option Addr) (n1 n2 c1 c2 B : Nat) (xs ys : List (Int × Int)) (v u k : Int) (L : List Nat) (w : World) (h1 : OwnB w B a1 xs) (h2 : OwnB w B a2 ys) (hap : Apart a1 a2 xs ys) (l1 : xs.length = n1) (l2 : ys.length = n2) (m1 : n1 ≤ 2 ^ 30) (m2 : n2 ≤ 2 ^ 30) (hk0 : 0 ≤ k) (hk : k ≤ 2 ^ 30)
    (hL1 : ∀ g, a1 = some ⟨g, 0, none⟩ → g ∈ L) (hL2 : ∀ g, a2 = some ⟨g, 0, none⟩ → g ∈ L) :
    Calls Try.prog 33 #[.agg #[.bool n, .int .i64 p, .int .i64 q, .slice a1 n1 c1, .slice a2 n2 c2, .int .i64 v, .int .i64 u], .int .i64 k] w fun e w' => e = .returned (.int .i64 (k + 2 * n1 + 2 * n2)) ∧ Turned L w w' := by
  obtain ⟨W, hW⟩ : ∃ W, W = w.alloc (.cells #[.bool n, .int .i64 p, .int .i64 q, .slice a1 n1 c1, .slice a2 n2 c2, .int .i64 v, .int .i64 u] 34) := ⟨_, rfl⟩
  have bW : Below w.heap.size w W := by rw [hW]; exact below_new _ _
  have BW : Hid (Below w.heap.size w W) := bW
  have QW : Hid (Blk W w.heap.size #[.bool n, .int .i64 p, .int .i64 q, .slice a1 n1 c1, .slice a2 n2 c2, .int .i64 v, .int .i64 u] 34) := by show Blk _ _ _ _; rw [hW]; exact Blk.new _ _ _
  have MR : Hid (Calls Try.prog 85 #[.agg #[.slice a1 n1 c1, .slice a2 n2 c2, .int .i64 v, .int .i64 u], .int .i64 k] W fun e w' => e = .returned (.int .i64 (k + 2 * n1 + 2 * n2)) ∧ OwnB w' B a1 (marks k n1) ∧ OwnB w' B a2 (marks (k + 2 * n1) n2) ∧ Turned L W w') :=
    markRunB a1 a2 n1 n2 c1 c2 B xs ys v u k L W (h1.below bW) (h2.below bW) hap l1 l2 m1 m2 hk0 hk hL1 hL2
  have HW : Hid (W = _) := hW
  obtain ⟨q0, q1, q2, q3, q4, q5, q6⟩ := QW.out.cells7
  clear h1 h2 hap l1 l2 hL1 hL2 hW bW
  go_enter Try.func33, Try.ntmps33
  go_wp2_with fail
  rw [← HW.out]
  go_wp2_with fail
  refine Calls.mono MR.out ?_
  rintro e w1 ⟨rfl, _, _, ht⟩
  have T : Hid (Turned L w w1) := (Turned.ofBelow BW.out).trans ht
  clear ht
  go_wp2_with fail
  go_ret
  exact ⟨rfl, T.out⟩
end Go.Proofs.Ytbbbfnfpmaogoaa.Own
