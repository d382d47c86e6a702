/-
  Own text: what spec.l6Votes does.
-/
import Derived.Test.YtbbbfnfpmaogoaaVoteS
import Derived.BigQuiet
import Derived.Lib.QuietBelow
import Derived.Deep.Cut
namespace Go.Proofs.Ytbbbfnfpmaogoaa.Own
open Go.RowKit Go.Sort
set_option linter.unusedVariables false
set_option linter.unusedSimpArgs false

set_option maxRecDepth 100000 in
set_option maxHeartbeats 2000000 in
theorem specVotes (a : Option Addr) (c : Nat) (vs : List VM) (w : World) (h : SlV w a vs) (hn : vs.length ≤ 2 ^ 40) (hl : VLs vs) :
    Calls Try.prog 68 #[.slice a vs.length c] w fun e w' => e = .returned (.bool (votesOk (bodies vs))) ∧ Below w.heap.size w w' := by
  have HS : Hid (SlV w a vs) := h
  have HL : Hid (VLs vs) := hl
  clear h hl
  have E1 : Hid (40 < vs.length → votesOk (bodies vs) = false) := fun h => by unfold votesOk; rw [bodies_len]; simp; intro h2; omega
  have E2 : Hid (∀ i, i < vs.length → voteOk (vs.getD i v0).body = false → votesOk (bodies vs) = false) := fun i hi h => by
    unfold votesOk
    rw [allV_not (0, e0) (i := i) (by rw [bodies_len]; exact hi) (by rw [bodies_getD]; exact h), Bool.and_false]
  have E3 : Hid (vs.length ≤ 40 → (∀ i, i < vs.length → voteOk (vs.getD i v0).body = true) → votesOk (bodies vs) = true) := fun h h2 => by
    unfold votesOk
    rw [bodies_len, allV_at (0, e0) (fun i hi => by rw [bodies_getD]; exact h2 i (by rw [bodies_len] at hi; exact hi))]
    simp [h]
  generalize votesOk (bodies vs) = T at E1 E2 E3 ⊢
  by_cases h40 : 40 < vs.length
  · have F : Hid (T = false) := E1.out h40
    have hi : (vs.length : Int) > 40 := by omega
    go_enter Try.func68, Try.ntmps68
    go_wp2_with fail
    go_ret
    exact ⟨ret_bool F.out.symm, Below.refl _ _⟩
  · have hi : ¬ (vs.length : Int) > 40 := by omega
    go_enter Try.func68, Try.ntmps68
    go_wp2_with fail
    go_loopw [3] (fun i wr => ∃ k : Nat, k ≤ vs.length ∧ i = .int .i64 k ∧ Hid (∀ j, j < k → voteOk (vs.getD j v0).body = true) ∧ Hid (Below w.heap.size w wr)) (fun i _ => vs.length - (intOf i).toNat)
    case atStart => exact ⟨0, Nat.zero_le _, rfl, fun j hj => by omega, Below.refl _ _⟩
    case round =>
      obtain ⟨k, hk, rfl, HA, KB⟩ := hrel
      by_cases hlt : k < vs.length
      · have hki : (k : Int) < (vs.length : Int) := by omega
        rcases HS.out.below KB.out with hh | ⟨b, off, rfl, _, hh⟩
        · rw [hh] at hlt; simp at hlt
        obtain ⟨⟨d0, d1, d2, d3, d4, d5, d6, d7⟩, s1, s2⟩ := hh k hlt
        have NX : Hid (∀ y, voteOk (vs.getD k v0).body = y → (y = false → T = false) ∧ (y = true → ∀ j, j < k + 1 → voteOk (vs.getD j v0).body = true)) := fun y hy => ⟨fun h => E2.out k hlt (by rw [hy, h]), fun h j hj => by
          by_cases e : j = k
          · subst e; rw [hy, h]
          · exact HA.out j (by omega)⟩
        have LX := HL.out k hlt
        have SX : Hid (Sl wr (vs.getD k v0).a1 (vs.getD k v0).b.xs ∧ Sl wr (vs.getD k v0).a2 (vs.getD k v0).b.ys) := ⟨s1, s2⟩
        clear hh s1 s2
        obtain ⟨x, hx⟩ : ∃ x, x = vs.getD k v0 := ⟨_, rfl⟩
        rw [← hx] at d0 d1 d2 d3 d4 d5 d6 d7 LX SX
        have NX2 : Hid (∀ y, voteOk x.body = y → (y = false → T = false) ∧ (y = true → ∀ j, j < k + 1 → voteOk (vs.getD j v0).body = true)) := fun y hy => NX.out y (by rw [← hx]; exact hy)
        clear NX hx
        obtain ⟨xbal, ⟨xn, xp, xq, xxs, xys, xv, xk⟩, xa1, xc1, xa2, xc2⟩ := x
        simp only [VM.body] at d0 d1 d2 d3 d4 d5 d6 d7 LX SX NX2
        go_wp2_with fail
        refine (specVote xbal xn xp xq xa1 xa2 xc1 xc2 xxs xys xv xk wr SX.out.1 SX.out.2 LX.1 LX.2.1 LX.2.2.1 LX.2.2.2).mono ?_
        rintro e w1 ⟨rfl, hw⟩
        have B1 : Hid (Below w.heap.size w w1) := KB.out.trans (hw.mono KB.out.size)
        have N3 := NX2.out _ rfl
        clear hw NX2 d0 d1 d2 d3 d4 d5 d6 d7
        generalize voteOk (xbal, ⟨xn, xp, xq, xxs, xys, xv, xk⟩) = y at N3 ⊢
        cases y with
        | false =>
          have F : Hid (T = false) := N3.1 rfl
          clear N3
          go_wp2_with fail
          go_ret
          exact ⟨ret_bool F.out.symm, B1.out⟩
        | true =>
          have F : Hid (∀ j, j < k + 1 → voteOk (vs.getD j v0).body = true) := N3.2 rfl
          clear N3
          go_wp2_with fail
          go_roundw
          case rel => exact ⟨k + 1, by omega, by go_num, F.out, B1.out⟩
          case measure => simp [intOf]; omega
      · have hki : ¬ (k : Int) < (vs.length : Int) := by omega
        have F : Hid (T = true) := E3.out (by omega) (fun i hi => HA.out i (by omega))
        go_wp2_with fail
        go_ret
        exact ⟨ret_bool F.out.symm, KB.out⟩
end Go.Proofs.Ytbbbfnfpmaogoaa.Own
