/-
  Own text: what laws.heldVoteS reads of votes that bear their marks.
-/
import Derived.Test.YtfifiobcmdmefaaMarkVoteS
namespace Go.Proofs.Ytfifiobcmdmefaa.Own
open Go.RowKit
set_option linter.unusedVariables false
set_option linter.unusedSimpArgs false

set_option maxRecDepth 100000 in
set_option maxHeartbeats 4000000 in
theorem heldVoteS (g c B : Nat) (vs : List VM) (k0 : Int) (w : World) (h : OwnVs w B g (mixV k0 vs vs.length)) (hn : vs.length ≤ 2 ^ 30) (hk0 : 0 ≤ k0) (hk1 : k0 ≤ 2 ^ 30) (hs : stepsV vs vs.length ≤ 2 ^ 30) :
    Calls Try.prog 115 #[.slice (some ⟨g, 0, none⟩) vs.length c, .int .i64 k0] w fun e w' => e = .returned (.int .i64 (k0 + (stepsV vs vs.length : Nat))) ∧ w' = w := by
  have HS : Hid (stepsV vs vs.length ≤ 2 ^ 30) := hs
  have OV : Hid (OwnVs w B g (mixV k0 vs vs.length)) := h
  clear h hs
  go_enter Try.func115, Try.ntmps115
  go_wp2_with fail
  go_loopw [1, 5] (fun q i wr => ∃ j : Nat, j ≤ vs.length ∧ i = .int .i64 j ∧ q = .int .i64 (k0 + (stepsV vs j : Nat)) ∧ wr = w) (fun _ i _ => vs.length - (intOf i).toNat)
  case atStart => exact ⟨0, Nat.zero_le _, rfl, by simp [stepsV], rfl⟩
  case round =>
    obtain ⟨j, hj, rfl, rfl, rfl⟩ := hrel
    by_cases hlt : j < vs.length
    · have hji : (j : Int) < (vs.length : Int) := by omega
      have hjm : j < (mixV k0 vs vs.length).length := by rw [mixV_len]; exact hlt
      have mj : (mixV k0 vs vs.length).getD j v0 = markedV (k0 + (stepsV vs j : Nat)) (vs.getD j v0) := by rw [mixV_at _ _ _ hlt, if_pos hlt]
      have cj := OV.out.cell j hjm
      obtain ⟨o1, o2⟩ := OV.out.own j hjm
      rw [mj] at cj o1 o2
      obtain ⟨x, hx⟩ : ∃ x, x = vs.getD j v0 := ⟨_, rfl⟩
      have st := stepsV_mono vs (show j + 1 ≤ vs.length by omega)
      have HSn := HS.out
      have NX : Hid (stepsV vs (j + 1) = stepsV vs j + (6 + 2 * x.b.xs.length + 2 * x.b.ys.length)) := by show _ = _; rw [hx]; rfl
      rw [← hx] at cj o1 o2
      have xl : x.b.xs.length ≤ 2 ^ 30 ∧ x.b.ys.length ≤ 2 ^ 30 ∧ stepsV vs j ≤ 2 ^ 30 := by have := NX.out; omega
      clear hx mj hjm HSn st
      obtain ⟨k, hk⟩ : ∃ k : Int, k = k0 + (stepsV vs j : Nat) := ⟨_, rfl⟩
      have kb0 : 0 ≤ k := by omega
      have kb1 : k ≤ 2 ^ 31 := by omega
      rw [← hk] at cj o1 o2 ⊢
      have HK : Hid (k = k0 + (stepsV vs j : Nat)) := hk
      obtain ⟨xl1, xl2, _⟩ := xl
      clear hk
      have e2 : k + 2 = k + 1 + 1 := by omega
      have e3 : k + 3 = k + 1 + 1 + 1 := by omega
      have e4 : k + 4 = k + 1 + 1 + 1 + 1 := by omega
      have e5 : k + 5 + 2 * (x.b.xs.length : Int) + 2 * x.b.ys.length = k + 1 + 1 + 1 + 1 + 2 * x.b.xs.length + 2 * x.b.ys.length + 1 := by omega
      simp only [C8, markedV, marks_length, e5] at cj
      simp only [e2, e3, e4] at cj
      simp only [markedV, e4] at o1 o2
      have A1 : Hid (OwnB wr B x.a1 (marks (k + 1 + 1 + 1 + 1) x.b.xs.length)) := o1
      have A2 : Hid (OwnB wr B x.a2 (marks (k + 1 + 1 + 1 + 1 + 2 * x.b.xs.length) x.b.ys.length)) := o2
      clear o1 o2 e2 e3 e4 e5
      obtain ⟨d0, d1, d2, d3, d4, d5, d6, d7⟩ := cj
      have p1 : ¬ k + 1 + 1 + 1 + 1 + 2 * (x.b.xs.length : Int) < 0 := by omega
      have p2 : ¬ k + 1 + 1 + 1 + 1 + 2 * (x.b.xs.length : Int) + 2 * (x.b.ys.length : Int) < 0 := by omega
      go_wp2_with fail
      refine (heldReadB x.a1 x.c1 x.b.xs.length B (k + 1 + 1 + 1 + 1) wr A1.out (by omega) (by omega) (by omega)).mono ?_
      rintro e w1 ⟨rfl, hw⟩
      subst hw
      go_wp2_with fail
      refine (heldPutB x.a2 x.c2 x.b.ys.length B (k + 1 + 1 + 1 + 1 + 2 * x.b.xs.length) w1 A2.out (by omega) (by omega) (by omega)).mono ?_
      rintro e w2 ⟨rfl, hw⟩
      subst hw
      go_wp2_with fail
      refine ⟨⟨j + 1, by omega, by go_num, ?_, by first | trivial | rfl⟩, ?_⟩
      · have := NX.out; have := HK.out
        congr 1; omega
      · simp only [intOf]; omega
    · have hji : ¬ (j : Int) < (vs.length : Int) := by omega
      obtain rfl : j = vs.length := by omega
      go_wp2_with fail
      go_ret
      exact ⟨rfl, rfl⟩
end Go.Proofs.Ytfifiobcmdmefaa.Own
