/-
  Own text: what impl.CertEntry does.
-/
import Derived.Test.YtbbbfnfpmaogoaaEntOkI
namespace Go.Proofs.Ytbbbfnfpmaogoaa.Own
open Go.RowKit
set_option linter.unusedVariables false
set_option linter.unusedSimpArgs false

set_option maxRecDepth 100000 in
set_option maxHeartbeats 1000000 in
theorem implCertEntry (n : Bool) (p q : Int) (a1 a2 : Option Addr) (c1 c2 : Nat) (xs ys : List P2) (v k : Int) (w : World) (h1 : Sl w a1 xs) (h2 : Sl w a2 ys) (n1 : xs.length ≤ 2 ^ 40) (n2 : ys.length ≤ 2 ^ 40) :
    Calls Try.prog 121 #[.agg #[.bool n, .int .i64 p, .int .i64 q, .slice a1 xs.length c1, .slice a2 ys.length c2, .int .i64 v, .int .i64 k]] w fun e w' => e = .returned (.bool (entOk n p q xs ys v k)) ∧ Below w.heap.size w w' := by
  have H1 : Hid (Sl w a1 xs) := h1
  have H2 : Hid (Sl w a2 ys) := h2
  clear h1 h2
  obtain ⟨W, hW⟩ : ∃ W, W = w.alloc (.cells #[.bool n, .int .i64 p, .int .i64 q, .slice a1 xs.length c1, .slice a2 ys.length c2, .int .i64 v, .int .i64 k] 34) := ⟨_, rfl⟩
  have BW : Hid (Below w.heap.size w W) := by show Below _ _ _; rw [hW]; exact (Below.refl _ _).alloc (Nat.le_refl _) _
  have HW : Hid (W = _) := hW
  clear hW
  cases n with
  | false =>
    have E : Hid (entOk false p q xs ys v k = (reqOk p q && execOk xs ys v k && k != 3)) := rfl
    go_enter Try.func121, Try.ntmps121
    go_wp2_with fail
    rw [← HW.out]
    refine (implEntryOf _ _ _ _ _ _ _ W).mono ?_
    rintro e w1 ⟨rfl, b1⟩
    have B1 : Hid (Below w.heap.size w w1) := BW.out.trans (b1.mono BW.out.size)
    clear b1
    simp only [Bool.false_eq_true, if_false]
    go_wp2_with fail
    refine (implRunRight false p q a1 a2 c1 c2 xs ys v k w1 (H1.out.below B1.out) (H2.out.below B1.out) n1 n2).mono ?_
    rintro e w2 ⟨rfl, b2⟩
    have B2 : Hid (Below w.heap.size w w2) := B1.out.trans (b2.mono B1.out.size)
    clear b2
    rw [← E.out]
    generalize hr : entOk false p q xs ys v k = r
    have HR : Hid (_ = r) := hr
    clear hr
    go_wp2_with fail
    go_ret
    exact ⟨ret_bool HR.out.symm, B2.out⟩
  | true =>
    have E : Hid (entOk true p q xs ys v k = likeE true true (p, q) (0, 0) xs ys [] [] v k 0 0) := rfl
    go_enter Try.func121, Try.ntmps121
    go_wp2_with fail
    rw [← HW.out]
    refine (implEntryOf _ _ _ _ _ _ _ W).mono ?_
    rintro e w1 ⟨rfl, b1⟩
    have B1 : Hid (Below w.heap.size w w1) := BW.out.trans (b1.mono BW.out.size)
    clear b1
    simp only [if_true]
    go_wp2_with fail
    refine (implEmptyRight true p q a1 a2 c1 c2 xs ys v k w1 (H1.out.below B1.out) (H2.out.below B1.out) n1 n2).mono ?_
    rintro e w2 ⟨rfl, b2⟩
    have B2 : Hid (Below w.heap.size w w2) := B1.out.trans (b2.mono B1.out.size)
    clear b2
    rw [← E.out]
    generalize hr : entOk true p q xs ys v k = r
    have HR : Hid (_ = r) := hr
    clear hr
    go_wp2_with fail
    go_ret
    exact ⟨ret_bool HR.out.symm, B2.out⟩
end Go.Proofs.Ytbbbfnfpmaogoaa.Own
