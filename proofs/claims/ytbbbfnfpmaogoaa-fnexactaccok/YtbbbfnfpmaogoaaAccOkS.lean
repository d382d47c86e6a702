/-
  Own text: what spec.AccOk does.
-/
import Derived.Test.YtbbbfnfpmaogoaaVotesS
import Derived.BigQuiet
import Derived.Lib.QuietBelow
import Derived.Deep.Cut
namespace Go.Proofs.Ytbbbfnfpmaogoaa.Own
open Go.RowKit Go.Sort
set_option linter.unusedVariables false
set_option linter.unusedSimpArgs false

set_option maxRecDepth 100000 in
set_option maxHeartbeats 2000000 in
theorem specAccOk (m : Int) (a : Option Addr) (c : Nat) (vs : List VM) (w : World) (h : SlV w a vs) (hn : vs.length ≤ 2 ^ 40) (hl : VLs vs) :
    Calls Try.prog 20 #[.agg #[.int .i64 m, .slice a vs.length c]] w fun e w' => e = .returned (.bool (accOk m (bodies vs))) ∧ Below w.heap.size w w' := by
  have E : Hid (accOk m (bodies vs) = (decide (0 ≤ m) && decide (m ≤ 3000) && votesOk (bodies vs) && (bodies vs).all fun x => decide (x.1 ≤ m))) := rfl
  have E2 : Hid (∀ i, i < vs.length → m < (vs.getD i v0).bal → (bodies vs).all (fun x => decide (x.1 ≤ m)) = false) := fun i hi h => allV_not (0, e0) (i := i) (by rw [bodies_len]; exact hi) (by rw [bodies_getD]; exact decide_eq_false (by show ¬ (vs.getD i v0).bal ≤ m; omega))
  have E3 : Hid ((∀ i, i < vs.length → (vs.getD i v0).bal ≤ m) → (bodies vs).all (fun x => decide (x.1 ≤ m)) = true) := fun h2 => allV_at (0, e0) (fun i hi => by rw [bodies_getD]; exact decide_eq_true (h2 i (by rw [bodies_len] at hi; exact hi)))
  generalize accOk m (bodies vs) = T at E ⊢
  generalize (bodies vs).all (fun x => decide (x.1 ≤ m)) = U at E E2 E3
  obtain ⟨W, hW⟩ : ∃ W, W = w.alloc (.cells #[.int .i64 m, .slice a vs.length c] 24) := ⟨_, rfl⟩
  have BW : Hid (Below w.heap.size w W) := by show Below _ _ _; rw [hW]; exact (Below.refl _ _).alloc (Nat.le_refl _) _
  have G0 : Hid (Blk W w.heap.size #[.int .i64 m, .slice a vs.length c] 24) := by show Blk _ _ _ _; rw [hW]; exact Blk.new _ _ _
  have HW : Hid (W = _) := hW
  clear hW
  have HS : Hid (SlV W a vs) := h.below BW.out
  have HC : Hid (Calls Try.prog 68 #[.slice a vs.length c] W fun e w' => e = .returned (.bool (votesOk (bodies vs))) ∧ Below W.heap.size W w') := specVotes a c vs W (h.below BW.out) hn hl
  clear h hl
  generalize votesOk (bodies vs) = VO at E HC
  cases h1 : decide (0 ≤ m) with
  | false =>
    have F : Hid (T = false) := by show _ = _; rw [E.out, h1]; rfl
    have hi : m < 0 := by simpa using h1
    clear E h1
    go_enter Try.func20, Try.ntmps20
    go_wp2_with fail
    go_ret
    exact ⟨ret_bool F.out.symm, by rw [← HW.out]; exact BW.out⟩
  | true =>
    have hi1 : ¬ m < 0 := by simpa using h1
    cases h2 : decide (m ≤ 3000) with
    | false =>
      have F : Hid (T = false) := by show _ = _; rw [E.out, h1, h2]; rfl
      have hi : m > 3000 := by simpa using h2
      clear E h1 h2
      go_enter Try.func20, Try.ntmps20
      go_wp2_with fail
      go_ret
      exact ⟨ret_bool F.out.symm, by rw [← HW.out]; exact BW.out⟩
    | true =>
      have hi2 : ¬ m > 3000 := by simpa using h2
      have E4 : Hid (T = (VO && U)) := by show _ = _; rw [E.out, h1, h2]; simp
      clear E h1 h2
      go_enter Try.func20, Try.ntmps20
      go_wp2_with fail
      rw [← HW.out]
      refine Calls.mono HC.out ?_
      rintro e w1 ⟨rfl, b1⟩
      have B1 : Hid (Below w.heap.size w w1) := BW.out.trans (b1.mono BW.out.size)
      have B2 : Hid (Below W.heap.size W w1) := b1
      obtain ⟨q0, q1⟩ := (G0.out.keep b1).cells2
      clear b1
      cases VO with
      | false =>
        have F : Hid (T = false) := by show _ = _; rw [E4.out]; rfl
        go_wp2_with fail
        go_ret
        exact ⟨ret_bool F.out.symm, B1.out⟩
      | true =>
        have F : Hid (T = U) := by show _ = _; rw [E4.out]; rfl
        clear E4
        go_wp2_with fail
        clear q0 q1
        go_loopw [3] (fun i wr => ∃ k : Nat, k ≤ vs.length ∧ i = .int .i64 k ∧ Hid (∀ j, j < k → (vs.getD j v0).bal ≤ m) ∧ Hid (Below W.heap.size W wr)) (fun i _ => vs.length - (intOf i).toNat)
        case atStart => exact ⟨0, Nat.zero_le _, rfl, fun j hj => by omega, B2.out⟩
        case round =>
          obtain ⟨k, hk, rfl, HA, KB⟩ := hrel
          obtain ⟨q0, q1⟩ := (G0.out.keep KB.out).cells2
          have KW : Hid (Below w.heap.size w wr) := BW.out.trans (KB.out.mono BW.out.size)
          by_cases hlt : k < vs.length
          · have hki : (k : Int) < (vs.length : Int) := by omega
            rcases HS.out.below KB.out with hh | ⟨b, off, rfl, _, hh⟩
            · rw [hh] at hlt; simp at hlt
            have d0 := (hh k hlt).1.1
            clear hh
            obtain ⟨y, hy⟩ : ∃ y, y = (vs.getD k v0).bal := ⟨_, rfl⟩
            rw [← hy] at d0
            by_cases hb : y > m
            · have F2 : Hid (T = false) := by show _ = _; rw [F.out]; exact E2.out k hlt (by rw [← hy]; exact hb)
              have hb2 : decide (m < y) = true := decide_eq_true hb
              clear hy hb
              go_wp2_with fail
              go_quiet (fail)
              go_wp2_with fail
              go_ret
              exact ⟨ret_bool F2.out.symm, below_drewN KW.out _⟩
            · have NX : Hid (∀ j, j < k + 1 → (vs.getD j v0).bal ≤ m) := fun j hj => by
                by_cases e : j = k
                · subst e; rw [← hy]; omega
                · exact HA.out j (by omega)
              have hb2 : decide (m < y) = false := decide_eq_false hb
              clear hy hb
              go_wp2_with fail
              go_quiet (fail)
              go_wp2_with fail
              go_roundw
              case rel => exact ⟨k + 1, by omega, by go_num, NX.out, below_drewN KB.out _⟩
              case measure => simp [intOf]; omega
          · have hki : ¬ (k : Int) < (vs.length : Int) := by omega
            have F2 : Hid (T = true) := by show _ = _; rw [F.out]; exact E3.out (fun i hi => HA.out i (by omega))
            go_wp2_with fail
            go_ret
            exact ⟨ret_bool F2.out.symm, KW.out⟩
end Go.Proofs.Ytbbbfnfpmaogoaa.Own
