/-
  Own text: what laws.markRun does.
-/
import Derived.Test.YtbbbfnfpmaogoaaQMarkBRm
import Derived.Test.YtbbbfnfpmaogoaaQMarkBPm
import Derived.Test.YtbbbfnfpmaogoaaPk2
namespace Go.Proofs.Ytbbbfnfpmaogoaa.Own
open Go.RowKit
set_option linter.unusedVariables false

set_option maxRecDepth 100000 in
set_option maxHeartbeats 1000000 in
theorem markRunB (a1 a2 : Option Addr) (n1 n2 c1 c2 B : Nat) (xs ys : List (Int × Int)) (v u k : Int) (L : List Nat) (w : World) (h1 : OwnB w B a1 xs) (h2 : OwnB w B a2 ys) (hap : Apart a1 a2 xs ys) (l1 : xs.length = n1) (l2 : ys.length = n2) (m1 : n1 ≤ 2 ^ 30) (m2 : n2 ≤ 2 ^ 30) (hk0 : 0 ≤ k) (hk : k ≤ 2 ^ 30)
    (hL1 : ∀ g, a1 = some ⟨g, 0, none⟩ → g ∈ L) (hL2 : ∀ g, a2 = some ⟨g, 0, none⟩ → g ∈ L) :
    Calls Try.prog 85 #[.agg #[.slice a1 n1 c1, .slice a2 n2 c2, .int .i64 v, .int .i64 u], .int .i64 k] w fun e w' => e = .returned (.int .i64 (k + 2 * n1 + 2 * n2)) ∧ OwnB w' B a1 (marks k n1) ∧ OwnB w' B a2 (marks (k + 2 * n1) n2) ∧ Turned L w w' := by
  have H1 : Hid (OwnB w B a1 xs) := h1
  have H2 : Hid (OwnB w B a2 ys) := h2
  have HAP : Hid (Apart a1 a2 xs ys) := hap
  have HL1 : Hid (∀ g, a1 = some ⟨g, 0, none⟩ → g ∈ L) := hL1
  have HL2 : Hid (∀ g, a2 = some ⟨g, 0, none⟩ → g ∈ L) := hL2
  have N1 : Hid (xs.length = n1) := l1
  have N2 : Hid (ys.length = n2) := l2
  clear h1 h2 hap hL1 hL2 l1 l2
  obtain ⟨W, hW⟩ : ∃ W, W = w.alloc (.cells #[.slice a1 n1 c1, .slice a2 n2 c2, .int .i64 v, .int .i64 u] 32) := ⟨_, rfl⟩
  have BW : Hid (Below w.heap.size w W) := by show Below _ _ _; rw [hW]; exact below_new _ _
  have P0 : Hid (C4 W w.heap.size (.slice a1 n1 c1) (.slice a2 n2 c2) (.int .i64 v) (.int .i64 u)) := by show C4 _ _ _ _ _ _; rw [hW]; exact C4.new _ _ _ _ _ _
  have HW : Hid (W = _) := hW
  clear hW
  have K1 : Hid (∀ w1, OnlyB a1 xs W w1 → C4 w1 w.heap.size (.slice a1 n1 c1) (.slice a2 n2 c2) (.int .i64 v) (.int .i64 u)) := by
    intro w1 ho
    rcases ho with ⟨_, rfl⟩ | ⟨g, hne, e, ho⟩
    · exact P0.out
    · refine P0.out.turned (L := [g]) (Turned.ofOnly ho (by simp)) ?_
      have hg : g < w.heap.size := by
        rcases H1.out with h | ⟨g', e', _, h, _⟩
        · exact absurd h hne
        · rw [e] at e'; injection e' with e'; injection e' with e1; subst e1; exact h.1
      simp; omega
  go_enter Try.func85, Try.ntmps85
  go_wp2_with fail
  rw [← HW.out]
  refine (markReadB a1 c1 n1 B xs k W (H1.out.below BW.out) N1.out (by omega) hk0 (by omega)).mono ?_
  rintro e w1 ⟨rfl, o1, t1⟩
  have O1 : Hid (OwnB w1 B a1 (marks k n1)) := o1
  have O2 : Hid (OwnB w1 B a2 ys) := by
    refine (H2.out.below BW.out).onlyB t1 ?_
    rcases HAP.out with h | h | h
    · exact .inr (.inl h)
    · exact .inl h
    · exact .inr (.inr fun g g' e e' => fun e2 => h g' g e' e e2.symm)
  have T1 : Hid (Turned L w w1) := (Turned.ofBelow BW.out).trans (Turned.ofOnlyB t1 HL1.out)
  obtain ⟨_, q0, q1, q2, q3⟩ := K1.out w1 t1
  clear o1 t1
  go_wp2_with fail
  refine (markPutB a2 c2 n2 B ys (k + 2 * n1) w1 O2.out N2.out (by omega) (by omega) (by omega)).mono ?_
  rintro e w2 ⟨rfl, o2, t2⟩
  have O3 : Hid (OwnB w2 B a2 (marks (k + 2 * n1) n2)) := o2
  have O4 : Hid (OwnB w2 B a1 (marks k n1)) := by
    refine O1.out.onlyB t2 ?_
    rcases HAP.out with h | h | h
    · left
      have := N1.out
      rw [h] at this
      rw [← this]; rfl
    · exact .inr (.inl h)
    · exact .inr (.inr h)
  have T2 : Hid (Turned L w w2) := T1.out.trans (Turned.ofOnlyB t2 HL2.out)
  clear o2 t2 q0 q1 q2 q3
  go_wp2_with fail
  go_ret
  exact ⟨rfl, O4.out, O3.out, T2.out⟩

end Go.Proofs.Ytbbbfnfpmaogoaa.Own
