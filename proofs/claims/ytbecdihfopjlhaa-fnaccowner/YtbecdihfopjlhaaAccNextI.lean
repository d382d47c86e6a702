/-
  Own text: the next ballot of somebody, both sides.
-/
import Derived.Test.YtbecdihfopjlhaaAccOwn
namespace Go.Proofs.Ytbecdihfopjlhaa.Own
open Go.RowKit
set_option linter.unusedVariables false

/-- The least number above b that is p's. -/
def aboveB (b p : Int) : Int := b + 1 + (p - b - 1) % 3
/-- The next ballot of somebody, or -1. -/
def nextOf (b p : Int) : Int := if 0 ≤ b ∧ b < 3000 ∧ 0 ≤ p ∧ p < 3 ∧ aboveB b p ≤ 3000 then aboveB b p else -1

theorem nextOf_not {b p : Int} (h : ¬ (0 ≤ b ∧ b < 3000 ∧ 0 ≤ p ∧ p < 3)) : nextOf b p = -1 := if_neg (fun h' => h ⟨h'.1, h'.2.1, h'.2.2.1, h'.2.2.2.1⟩)

set_option maxRecDepth 100000 in
set_option maxHeartbeats 1000000 in
theorem implNext (b p : Int) (w : World) : Calls Try.prog 26 #[.int .i64 b, .int .i64 p] w fun e w' => e = .returned (.int .i64 (nextOf b p)) ∧ w' = w := by
  by_cases h : 0 ≤ b ∧ b < 3000 ∧ 0 ≤ p ∧ p < 3
  · obtain ⟨h1, h2, h3, h4⟩ := h
    obtain ⟨T, hT⟩ : ∃ T, T = aboveB b p := ⟨_, rfl⟩
    have HT : Hid (T = b + 1 + (p - b - 1) % 3) := hT
    have hN : nextOf b p = if T ≤ 3000 then T else -1 := by
      unfold nextOf; rw [← hT]
      by_cases hc : T ≤ 3000
      · rw [if_pos ⟨h1, h2, h3, h4, hc⟩, if_pos hc]
      · rw [if_neg (fun h' => hc h'.2.2.2.2), if_neg hc]
    have HR : Hid (b < T ∧ T ≤ b + 3 ∧ T % 3 = p ∧ ∀ x, b < x → x < T → x % 3 ≠ p) := by
      have := HT.out
      refine ⟨by omega, by omega, by omega, fun x _ _ => by omega⟩
    have TL : T ≤ 3002 := by have := HR.out.2.1; omega
    have B : Hid (∀ n w, Calls Try.prog 71 #[.int .i64 n] w fun e w' => e = .returned (.bool (isBal n)) ∧ w' = w) := implIsBallot
    obtain ⟨R, hR⟩ : ∃ R, R = nextOf b p := ⟨_, rfl⟩
    rw [← hR]
    have HN : Hid (R = if T ≤ 3000 then T else -1) := hR.trans hN
    clear hN hT HT hR
    go_enter Try.func26, Try.ntmps26
    go_wp2
    go_loop [5] (fun i => ∃ k : Int, i = .int .i64 k ∧ b < k ∧ k ≤ T) (fun i => (T - intOf i).toNat)
    case atStart => exact ⟨b + 1, rfl, by omega, by have := HR.out.1; omega⟩
    case round =>
      obtain ⟨k, rfl, hk1, hk2⟩ := hrel
      by_cases hk : k % 3 = p
      · have e : k = T := by
          rcases (by omega : k < T ∨ k = T) with hl | hl
          · exact absurd hk (HR.out.2.2.2 k hk1 hl)
          · exact hl
        subst e
        have hm : (k % 3 != p) = false := by rw [hk]; simp
        cases hb : isBal k with
        | true =>
          have hle := (isBal_iff.1 hb).2
          have BK : Hid (Calls Try.prog 71 #[.int .i64 k] w fun e w' => e = .returned (.bool true) ∧ w' = w) := hb ▸ B.out k w
          clear hb hk
          go_wp2_with fail
          refine Calls.mono BK.out ?_
          rintro e w1 ⟨rfl, rfl⟩
          go_wp2_with fail
          go_ret
          exact ⟨ret_int (by rw [HN.out, if_pos hle]), rfl⟩
        | false =>
          have hle : ¬ k ≤ 3000 := by rcases isBal_not.1 hb with h | h <;> omega
          have BK : Hid (Calls Try.prog 71 #[.int .i64 k] w fun e w' => e = .returned (.bool false) ∧ w' = w) := hb ▸ B.out k w
          clear hb hk
          go_wp2_with fail
          refine Calls.mono BK.out ?_
          rintro e w1 ⟨rfl, rfl⟩
          go_wp2_with fail
          go_ret
          exact ⟨ret_int (by rw [HN.out, if_neg (by omega)]), rfl⟩
      · have hm : (k % 3 != p) = true := by simpa using hk
        have hl : k < T := by
          rcases (by omega : k < T ∨ k = T) with hl | hl
          · exact hl
          · exact absurd (hl ▸ HR.out.2.2.1) hk
        clear hk
        go_wp2
        go_round
        case rel => exact ⟨k + 1, rfl, by omega, by omega⟩
        case measure => simp [intOf]; omega
  · rw [nextOf_not h]
    by_cases h1 : b < 0
    · go_enter Try.func26, Try.ntmps26
      go_wp2
      go_ret
      exact ⟨rfl, rfl⟩
    by_cases h2 : 3000 ≤ b
    · go_enter Try.func26, Try.ntmps26
      go_wp2
      go_ret
      exact ⟨rfl, rfl⟩
    by_cases h3 : p < 0
    · go_enter Try.func26, Try.ntmps26
      go_wp2
      go_ret
      exact ⟨rfl, rfl⟩
    have h4 : 3 ≤ p := by omega
    go_enter Try.func26, Try.ntmps26
    go_wp2
    go_ret
    exact ⟨rfl, rfl⟩

set_option maxRecDepth 100000 in
set_option maxHeartbeats 1000000 in
theorem specNext (b p : Int) (w : World) : Calls Try.prog 27 #[.int .i64 b, .int .i64 p] w fun e w' => e = .returned (.int .i64 (nextOf b p)) ∧ w' = w := by
  by_cases h : 0 ≤ b ∧ b < 3001 ∧ 0 ≤ p ∧ p < 3
  · obtain ⟨h1, h2, h3, h4⟩ := h
    obtain ⟨T, hT⟩ : ∃ T, T = aboveB b p := ⟨_, rfl⟩
    have HT : Hid (T = b + 1 + (p - b - 1) % 3) := hT
    have hN : nextOf b p = if T ≤ 3000 then T else -1 := by
      have := HT.out
      unfold nextOf; rw [← hT]
      by_cases hc : T ≤ 3000
      · rw [if_pos ⟨h1, by omega, h3, h4, hc⟩, if_pos hc]
      · rw [if_neg (fun h' => hc h'.2.2.2.2), if_neg hc]
    have HR : Hid (b < T ∧ T ≤ b + 3 ∧ T % 3 = p ∧ ∀ x, b < x → x < T → x % 3 ≠ p) := by
      have := HT.out
      refine ⟨by omega, by omega, by omega, fun x _ _ => by omega⟩
    obtain ⟨R, hR⟩ : ∃ R, R = nextOf b p := ⟨_, rfl⟩
    rw [← hR]
    have HN : Hid (R = if T ≤ 3000 then T else -1) := hR.trans hN
    clear hN hT HT hR
    go_enter Try.func27, Try.ntmps27
    go_wp2
    go_loop [5] (fun i => ∃ k : Int, i = .int .i64 k ∧ b < k ∧ k ≤ T ∧ k ≤ 3001) (fun i => (T - intOf i).toNat)
    case atStart => exact ⟨b + 1, rfl, by omega, by have := HR.out.1; omega, by omega⟩
    case round =>
      obtain ⟨k, rfl, hk1, hk2, hk3⟩ := hrel
      have hb3 : k ≤ b + 3 := by have := HR.out.2.1; omega
      by_cases hle : k ≤ 3000
      · by_cases hk : k % 3 = p
        · have e : k = T := by
            rcases (by omega : k < T ∨ k = T) with hl | hl
            · exact absurd hk (HR.out.2.2.2 k hk1 hl)
            · exact hl
          subst e
          have hm : (k % 3 == p) = true := by rw [hk]; simp
          clear hk
          go_wp2
          go_ret
          exact ⟨ret_int (by rw [HN.out, if_pos hle]), rfl⟩
        · have hm : (k % 3 == p) = false := by simpa using hk
          have hl : k < T := by
            rcases (by omega : k < T ∨ k = T) with hl | hl
            · exact hl
            · exact absurd (hl ▸ HR.out.2.2.1) hk
          clear hk
          go_wp2
          go_round
          case rel => exact ⟨k + 1, rfl, by omega, by omega, by omega⟩
          case measure => simp [intOf]; omega
      · have hT3 : ¬ T ≤ 3000 := by omega
        go_wp2
        go_ret
        exact ⟨ret_int (by rw [HN.out, if_neg (by omega)]), rfl⟩
  · rw [nextOf_not (fun h' => h ⟨h'.1, by omega, h'.2.2⟩)]
    by_cases h1 : b < 0
    · go_enter Try.func27, Try.ntmps27
      go_wp2
      go_ret
      exact ⟨rfl, rfl⟩
    by_cases h2 : 3000 < b
    · go_enter Try.func27, Try.ntmps27
      go_wp2
      go_ret
      exact ⟨rfl, rfl⟩
    by_cases h3 : p < 0
    · go_enter Try.func27, Try.ntmps27
      go_wp2
      go_ret
      exact ⟨rfl, rfl⟩
    have h4 : 3 ≤ p := by omega
    go_enter Try.func27, Try.ntmps27
    go_wp2
    go_ret
    exact ⟨rfl, rfl⟩
end Go.Proofs.Ytbecdihfopjlhaa.Own
