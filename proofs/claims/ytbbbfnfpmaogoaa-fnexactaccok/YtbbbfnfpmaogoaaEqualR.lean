/-
  Own text: what slices.Equal does over []Read.
-/
import Derived.Test.YtbbbfnfpmaogoaaPair2
namespace Go.Proofs.Ytbbbfnfpmaogoaa.Own
open Go.RowKit
set_option linter.unusedVariables false

theorem eqRead1 (d : Nat) (a b a' b' : Int) (w : World) : (Op.equalIn (d+2) 160 (.agg #[.int .i64 a, .int .i64 b]) (.agg #[.int .i64 a', .int .i64 b'])).run Try.prog w = .ok (eq2 (a, b) (a', b')) w := by
  unfold eq2
  go_simp
  by_cases h : a = a'
  · by_cases h1 : b = b' <;> simp [h, h1]
  · simp [h]
theorem neqRead (a b a' b' : Int) (w : World) : (binOp .neq 160 (.agg #[.int .i64 a, .int .i64 b]) (.agg #[.int .i64 a', .int .i64 b'])).run Try.prog w = .ok (.bool (!(eq2 (a, b) (a', b')))) w := by
  rw [run_neq_struct, eqRead1 9998]; rfl

set_option maxRecDepth 100000 in
set_option maxHeartbeats 1000000 in
theorem equalRead (a1 a2 : Option Addr) (c1 c2 : Nat) (xs ys : List P2) (w : World) (h1 : Sl w a1 xs) (h2 : Sl w a2 ys) (l1 : xs.length ≤ 2 ^ 40) (l2 : ys.length ≤ 2 ^ 40) :
    Calls Try.prog 134 #[.slice a1 xs.length c1, .slice a2 ys.length c2] w fun e w' => e = .returned (.bool (xs == ys)) ∧ Below w.heap.size w w' := by
  have H1 : Hid (Sl w a1 xs) := h1
  have H2 : Hid (Sl w a2 ys) := h2
  clear h1 h2
  by_cases hl : xs.length = ys.length
  · have hl' : ((xs.length : Int) != (ys.length : Int)) = false := by simp [hl]
    have Hl : Hid (xs.length = ys.length) := hl
    clear hl
    go_enter Try.func134, Try.ntmps134
    go_wp2
    go_loopw [13] (fun i wr => ∃ k : Nat, k ≤ xs.length ∧ i = .int .i64 k ∧ Hid (xs.take k = ys.take k) ∧ Below w.heap.size w wr) (fun i _ => xs.length - (intOf i).toNat)
    case atStart => exact ⟨0, Nat.zero_le _, rfl, rfl, Below.refl _ _⟩
    case round =>
      obtain ⟨k, hk, rfl, hE, hB⟩ := hrel
      by_cases hlt : k < xs.length
      · have hlt2 : k < ys.length := by rw [← Hl.out]; exact hlt
        rcases H1.out with h | ⟨b1, o1, rfl, h1⟩
        · subst h; simp at hlt
        rcases H2.out with h | ⟨b2, o2, rfl, h2⟩
        · subst h; simp at hlt2
        have H1' : Hid (BoxAt w b1 o1 xs) := h1
        have H2' : Hid (BoxAt w b2 o2 ys) := h2
        clear h1 h2
        have HT : Hid ((xs.take (k + 1) = ys.take (k + 1)) ↔ (xs.getD k (0, 0) = ys.getD k (0, 0))) := by
          unfold Hid; rw [take_succ_eqG (0, 0) hlt hlt2]; exact ⟨fun h => h.2, fun h => ⟨hE, h⟩⟩
        obtain ⟨p, hp⟩ : ∃ p, p = xs.getD k (0, 0) := ⟨_, rfl⟩
        obtain ⟨q, hq⟩ : ∃ q, q = ys.getD k (0, 0) := ⟨_, rfl⟩
        obtain ⟨ca, cb⟩ := H1'.out.2 k hlt
        obtain ⟨da, db⟩ := H2'.out.2 k hlt2
        rw [← hB.cell H1'.out.1, ← hp] at ca cb
        rw [← hB.cell H2'.out.1, ← hq] at da db
        have HP : Hid (p = xs.getD k (0, 0)) := hp
        have HQ : Hid (q = ys.getD k (0, 0)) := hq
        clear hp hq
        obtain ⟨p1, p2⟩ := p
        obtain ⟨q1, q2⟩ := q
        have HB : Hid (Below w.heap.size w wr) := hB
        clear hB
        have hne := fun w => neqRead p1 p2 q1 q2 w
        by_cases hpq : eq2 (p1, p2) (q1, q2) = true
        · have N : Hid (xs.take (k + 1) = ys.take (k + 1)) := by
            show _ = _
            apply HT.out.2
            rw [← HP.out, ← HQ.out]
            exact (eq2_iff _ _).1 hpq
          rw [hpq] at hne
          go_wp2
          go_quiet (fail)
          go_wp2
          go_roundw
          case rel => exact ⟨k + 1, by omega, by go_num, N, below_drewN HB.out _⟩
          case measure => simp [intOf]; omega
        · have hpq' : eq2 (p1, p2) (q1, q2) = false := by simpa using hpq
          have F : Hid ((xs == ys) = false) := by
            show _ = _
            apply ne_of_getDG (k := k) (0, 0)
            rw [← HP.out, ← HQ.out]
            exact (eq2_false _ _).1 hpq'
          clear hpq
          rw [hpq'] at hne
          go_wp2
          go_quiet (fail)
          go_wp2
          go_ret
          exact ⟨ret_bool F.out.symm, below_drewN HB.out _⟩
      · go_wp2
        go_ret
        have : k = xs.length := by omega
        subst this
        refine ⟨ret_bool ?_, hB⟩
        have h := hE
        unfold Hid at h
        rw [List.take_length] at h
        have h3 := Hl.out
        rw [List.take_of_length_le (by omega)] at h
        simp [h]
  · have hl' : ((xs.length : Int) != (ys.length : Int)) = true := by simp; omega
    go_enter Try.func134, Try.ntmps134
    go_wp2
    go_ret
    refine ⟨ret_bool ?_, Below.refl _ _⟩
    symm
    simp
    intro h; exact hl (by rw [h])
end Go.Proofs.Ytbbbfnfpmaogoaa.Own
