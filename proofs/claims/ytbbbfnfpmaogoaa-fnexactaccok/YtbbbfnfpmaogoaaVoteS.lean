/-
  Own text: what spec.l6Vote does.
-/
import Derived.Test.YtbbbfnfpmaogoaaAccMath
import Derived.Test.YtbbbfnfpmaogoaaEntOkS
import Derived.Test.YtbbbfnfpmaogoaaEntMath
import Derived.Test.YtbbbfnfpmaogoaaExecSameS
namespace Go.Proofs.Ytbbbfnfpmaogoaa.Own
open Go.RowKit
set_option linter.unusedVariables false
set_option linter.unusedSimpArgs false

theorem noneE_none (p q : Int) (xs ys : List P2) (v k : Int) : noneE ⟨true, p, q, xs, ys, v, k⟩ = false := by simp [noneE, likeE]
theorem noneE_req {p q : Int} (n : Bool) (xs ys : List P2) (v k : Int) (h : eq2 (p, q) (0, 0) = false) : noneE ⟨n, p, q, xs, ys, v, k⟩ = false := by simp [noneE, likeE, h]
theorem noneE_run {p q : Int} (xs ys : List P2) (v k : Int) (h : eq2 (p, q) (0, 0) = true) : noneE ⟨false, p, q, xs, ys, v, k⟩ = sameRun xs ys [] [] v k 0 0 := by simp [noneE, likeE, h]

set_option maxRecDepth 100000 in
set_option maxHeartbeats 2000000 in
theorem specVote (m : Int) (n : Bool) (p q : Int) (a1 a2 : Option Addr) (c1 c2 : Nat) (xs ys : List P2) (v k : Int) (w : World) (h1 : Sl w a1 xs) (h2 : Sl w a2 ys) (n1 : xs.length ≤ 2 ^ 40) (n2 : ys.length ≤ 2 ^ 40) (hc1 : xs.length ≤ c1) (hc2 : ys.length ≤ c2) :
    Calls Try.prog 112 #[.agg #[.int .i64 m, .bool n, .int .i64 p, .int .i64 q, .slice a1 xs.length c1, .slice a2 ys.length c2, .int .i64 v, .int .i64 k]] w fun e w' => e = .returned (.bool (voteOk (m, ⟨n, p, q, xs, ys, v, k⟩))) ∧ Below w.heap.size w w' := by
  have H1 : Hid (Sl w a1 xs) := h1
  have H2 : Hid (Sl w a2 ys) := h2
  clear h1 h2
  obtain ⟨W, hW⟩ : ∃ W, W = w.alloc (.cells #[.int .i64 m, .bool n, .int .i64 p, .int .i64 q, .slice a1 xs.length c1, .slice a2 ys.length c2, .int .i64 v, .int .i64 k] 86) := ⟨_, rfl⟩
  have BW : Hid (Below w.heap.size w W) := by show Below _ _ _; rw [hW]; exact (Below.refl _ _).alloc (Nat.le_refl _) _
  have G0 : Hid (Blk W w.heap.size #[.int .i64 m, .bool n, .int .i64 p, .int .i64 q, .slice a1 xs.length c1, .slice a2 ys.length c2, .int .i64 v, .int .i64 k] 86) := by show Blk _ _ _ _; rw [hW]; exact Blk.new _ _ _
  have HW : Hid (W = _) := hW
  clear hW
  by_cases hm : m = 0
  · have E : Hid (voteOk (m, ⟨n, p, q, xs, ys, v, k⟩) = noneE ⟨n, p, q, xs, ys, v, k⟩) := by show _ = _; simp [voteOk, hm]
    have k0 : (m == 0) = true := by simpa using hm
    clear hm
    generalize voteOk (m, ⟨n, p, q, xs, ys, v, k⟩) = T at E ⊢
    have hq := fun w => eqlReq p q 0 0 w
    cases n with
    | true =>
      have F : Hid (T = false) := by show _ = _; rw [E.out, noneE_none]
      clear E
      go_enter Try.func112, Try.ntmps112
      go_wp2_with fail
      go_ret
      exact ⟨ret_bool F.out.symm, by rw [← HW.out]; exact BW.out⟩
    | false =>
      cases he : eq2 (p, q) (0, 0) with
      | false =>
        have F : Hid (T = false) := by show _ = _; rw [E.out, noneE_req _ _ _ _ _ he]
        clear E
        rw [he] at hq
        go_enter Try.func112, Try.ntmps112
        go_wp2_with fail
        go_ret
        exact ⟨ret_bool F.out.symm, by rw [← HW.out]; exact BW.out⟩
      | true =>
        have F : Hid (T = sameRun xs ys [] [] v k 0 0) := by show _ = _; rw [E.out, noneE_run _ _ _ _ he]
        clear E
        rw [he] at hq
        go_enter Try.func112, Try.ntmps112
        go_wp2_with fail
        rw [← HW.out]
        refine (specExecSame a1 a2 none none c1 c2 0 0 xs ys [] [] v k 0 0 W (H1.out.below BW.out) (H2.out.below BW.out) (.inl rfl) (.inl rfl) n1 n2 (by simp) (by simp)).mono ?_
        rintro e w1 ⟨rfl, b1'⟩
        have B1 : Hid (Below w.heap.size w w1) := BW.out.trans (b1'.mono BW.out.size)
        clear b1'
        generalize sameRun xs ys [] [] v k 0 0 = r at F ⊢
        go_wp2_with fail
        go_ret
        exact ⟨ret_bool F.out.symm, B1.out⟩
  · have E : Hid (voteOk (m, ⟨n, p, q, xs, ys, v, k⟩) = (isBal m && entOk n p q xs ys v k)) := by show _ = _; simp [voteOk, hm, rightE]
    have k0 : (m == 0) = false := by simpa using hm
    clear hm
    generalize voteOk (m, ⟨n, p, q, xs, ys, v, k⟩) = T at E ⊢
    go_enter Try.func112, Try.ntmps112
    go_wp2_with fail
    rw [← HW.out]
    refine (specBal m W).mono ?_
    rintro e w1 ⟨rfl, rfl⟩
    obtain ⟨q0, q1, q2, q3, q4, q5, q6, q7⟩ := G0.out.cells8
    generalize isBal m = r at E ⊢
    cases r with
    | false =>
      have F : Hid (T = false) := by show _ = _; rw [E.out]; rfl
      go_wp2_with fail
      go_ret
      exact ⟨ret_bool F.out.symm, BW.out⟩
    | true =>
      go_wp2_with fail
      refine (specCertEntry n p q a1 a2 c1 c2 xs ys v k w1 (H1.out.below BW.out) (H2.out.below BW.out) n1 n2 hc1 hc2).mono ?_
      rintro e w2 ⟨rfl, b2⟩
      have B2 : Hid (Below w.heap.size w w2) := BW.out.trans (b2.mono BW.out.size)
      clear b2 q0 q1 q2 q3 q4 q5 q6 q7
      generalize entOk n p q xs ys v k = r2 at E ⊢
      have F : Hid (T = r2) := by show _ = _; rw [E.out]; rfl
      go_wp2_with fail
      go_ret
      exact ⟨ret_bool F.out.symm, B2.out⟩
end Go.Proofs.Ytbbbfnfpmaogoaa.Own
