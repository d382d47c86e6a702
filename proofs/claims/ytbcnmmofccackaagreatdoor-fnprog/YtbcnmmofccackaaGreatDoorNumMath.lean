/-
  Own text: plain mathematics of numbers in decimals, and of texts that are cut at a sign.
-/
import Derived.Test.YtbcnmmofccackaaGreatDoorDecMath
namespace Go.Proofs.YtbcnmmofccackaaGreatDoor.Own

theorem dec_digit (u : Nat) : ∀ c ∈ Lib.decDigits u, 48 ≤ c.toNat ∧ c.toNat ≤ 57 := by
  induction u using Nat.strongRecOn with
  | ind u ih =>
    intro c hc
    rw [Lib.decDigits] at hc
    split at hc
    · simp only [List.mem_singleton] at hc
      subst hc
      rw [UInt8.toNat_ofNat']; omega
    · rw [List.mem_append] at hc
      rcases hc with hc | hc
      · exact ih (u / 10) (by omega) c hc
      · simp only [List.mem_singleton] at hc
        subst hc
        rw [UInt8.toNat_ofNat']; omega

/-- What digits spell. -/
def decVal (l : List UInt8) : Nat := l.foldl (fun a c => a * 10 + (c.toNat - 48)) 0

theorem decVal_dec (u : Nat) : decVal (Lib.decDigits u) = u := by
  induction u using Nat.strongRecOn with
  | ind u ih =>
    rw [Lib.decDigits]
    split
    · rename_i h
      simp only [decVal, List.foldl_cons, List.foldl_nil]
      rw [UInt8.toNat_ofNat']; omega
    · rename_i h
      have := ih (u / 10) (by omega)
      simp only [decVal] at this ⊢
      rw [List.foldl_append, this]
      simp only [List.foldl_cons, List.foldl_nil]
      rw [UInt8.toNat_ofNat']; omega

theorem dec_inj {a b : Nat} (h : Lib.decDigits a = Lib.decDigits b) : a = b := by
  rw [← decVal_dec a, h, decVal_dec]

theorem dec_ne_nil (u : Nat) : Lib.decDigits u ≠ [] := by
  rw [Lib.decDigits]; split <;> simp

theorem dec_no_minus (u : Nat) (l : List UInt8) : Lib.decDigits u ≠ 45 :: l := by
  intro h
  have := dec_digit u 45 (by rw [h]; simp)
  simp at this

theorem itoa_inj {a b : Int} (h : Lib.itoa a = Lib.itoa b) : a = b := by
  by_cases ha : a < 0
  · by_cases hb : b < 0
    · rw [itoa_neg' a ha, itoa_neg' b hb] at h
      have := dec_inj (List.cons.inj h).2
      omega
    · rw [itoa_neg' a ha, itoa_pos' b hb] at h
      exact absurd h.symm (dec_no_minus _ _)
  · by_cases hb : b < 0
    · rw [itoa_pos' a ha, itoa_neg' b hb] at h
      exact absurd h (dec_no_minus _ _)
    · rw [itoa_pos' a ha, itoa_pos' b hb] at h
      have := dec_inj h
      omega

theorem itoa_sign (n : Int) : ∀ c ∈ Lib.itoa n, c.toNat = 45 ∨ (48 ≤ c.toNat ∧ c.toNat ≤ 57) := by
  intro c hc
  by_cases h : n < 0
  · rw [itoa_neg' n h] at hc
    rcases List.mem_cons.1 hc with rfl | hc
    · exact .inl rfl
    · exact .inr (dec_digit _ c hc)
  · rw [itoa_pos' n h] at hc
    exact .inr (dec_digit _ c hc)

theorem itoa_no (n : Int) : (47 : UInt8) ∉ Lib.itoa n ∧ (32 : UInt8) ∉ Lib.itoa n := by
  refine ⟨fun h => ?_, fun h => ?_⟩
  · have := itoa_sign n 47 h; simp at this
  · have := itoa_sign n 32 h; simp at this

/-- Two texts that are cut at the same sign. -/
theorem cut_first {c : UInt8} : ∀ {A A' B B' : List UInt8}, c ∉ A → c ∉ A' → A ++ c :: B = A' ++ c :: B' → A = A' ∧ B = B'
  | [], [], B, B', _, _, h => ⟨rfl, by simpa using h⟩
  | [], x :: A', B, B', _, h2, h => by
    simp at h
    exact absurd (by simp [h.1]) h2
  | x :: A, [], B, B', h1, _, h => by
    simp at h
    exact absurd (by simp [h.1]) h1
  | x :: A, y :: A', B, B', h1, h2, h => by
    simp at h
    obtain ⟨e1, e2⟩ := cut_first (A := A) (A' := A') (fun m => h1 (by simp [m])) (fun m => h2 (by simp [m])) h.2
    exact ⟨by rw [h.1, e1], e2⟩

theorem str_inj {a b : List UInt8} (h : str a = str b) : a = b := by
  rw [← str_list a, h, str_list]

end Go.Proofs.YtbcnmmofccackaaGreatDoor.Own
