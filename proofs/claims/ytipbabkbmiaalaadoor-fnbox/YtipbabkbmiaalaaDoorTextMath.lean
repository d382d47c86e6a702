/-
  Own text: plain mathematics of texts of boxes: no two lists of boxes have one text.
-/
import Derived.Test.YtipbabkbmiaalaaDoorText
namespace Go.Proofs.YtipbabkbmiaalaaDoor.Own

theorem dec_digit (u : Nat) : ∀ c ∈ Lib.decDigits u, 48 ≤ c.toNat ∧ c.toNat ≤ 57 := by
  induction u using Nat.strongRecOn with
  | ind u ih =>
    intro c hc
    rw [Lib.decDigits] at hc
    split at hc
    · simp only [List.mem_singleton] at hc
      subst hc
      rw [UInt8.toNat_ofNat']; omega
    · rw [List.mem_append] at hc
      rcases hc with hc | hc
      · exact ih (u / 10) (by omega) c hc
      · simp only [List.mem_singleton] at hc
        subst hc
        rw [UInt8.toNat_ofNat']; omega

/-- What digits spell. -/
def decVal (l : List UInt8) : Nat := l.foldl (fun a c => a * 10 + (c.toNat - 48)) 0

theorem decVal_dec (u : Nat) : decVal (Lib.decDigits u) = u := by
  induction u using Nat.strongRecOn with
  | ind u ih =>
    rw [Lib.decDigits]
    split
    · rename_i h
      simp only [decVal, List.foldl_cons, List.foldl_nil]
      rw [UInt8.toNat_ofNat']; omega
    · rename_i h
      have := ih (u / 10) (by omega)
      simp only [decVal] at this ⊢
      rw [List.foldl_append, this]
      simp only [List.foldl_cons, List.foldl_nil]
      rw [UInt8.toNat_ofNat']; omega

theorem dec_inj {a b : Nat} (h : Lib.decDigits a = Lib.decDigits b) : a = b := by
  rw [← decVal_dec a, h, decVal_dec]

theorem dec_ne_nil (u : Nat) : Lib.decDigits u ≠ [] := by
  rw [Lib.decDigits]; split <;> simp

theorem dec_no_minus (u : Nat) (l : List UInt8) : Lib.decDigits u ≠ 45 :: l := by
  intro h
  have := dec_digit u 45 (by rw [h]; simp)
  simp at this

theorem itoa_inj {a b : Int} (h : Lib.itoa a = Lib.itoa b) : a = b := by
  by_cases ha : a < 0
  · by_cases hb : b < 0
    · rw [itoa_neg' a ha, itoa_neg' b hb] at h
      have := dec_inj (List.cons.inj h).2
      omega
    · rw [itoa_neg' a ha, itoa_pos' b hb] at h
      exact absurd h.symm (dec_no_minus _ _)
  · by_cases hb : b < 0
    · rw [itoa_pos' a ha, itoa_neg' b hb] at h
      exact absurd h (dec_no_minus _ _)
    · rw [itoa_pos' a ha, itoa_pos' b hb] at h
      have := dec_inj h
      omega

theorem itoa_sign (n : Int) : ∀ c ∈ Lib.itoa n, c.toNat = 45 ∨ (48 ≤ c.toNat ∧ c.toNat ≤ 57) := by
  intro c hc
  by_cases h : n < 0
  · rw [itoa_neg' n h] at hc
    rcases List.mem_cons.1 hc with rfl | hc
    · exact .inl rfl
    · exact .inr (dec_digit _ c hc)
  · rw [itoa_pos' n h] at hc
    exact .inr (dec_digit _ c hc)

theorem itoa_no (n : Int) : (47 : UInt8) ∉ Lib.itoa n ∧ (32 : UInt8) ∉ Lib.itoa n := by
  refine ⟨fun h => ?_, fun h => ?_⟩
  · have := itoa_sign n 47 h; simp at this
  · have := itoa_sign n 32 h; simp at this

/-- Two texts that are cut at the same sign. -/
theorem cut_first {c : UInt8} : ∀ {A A' B B' : List UInt8}, c ∉ A → c ∉ A' → A ++ c :: B = A' ++ c :: B' → A = A' ∧ B = B'
  | [], [], B, B', _, _, h => ⟨rfl, by simpa using h⟩
  | [], x :: A', B, B', _, h2, h => by
    simp at h
    exact absurd (by simp [h.1]) h2
  | x :: A, [], B, B', h1, _, h => by
    simp at h
    exact absurd (by simp [h.1]) h1
  | x :: A, y :: A', B, B', h1, h2, h => by
    simp at h
    obtain ⟨e1, e2⟩ := cut_first (A := A) (A' := A') (fun m => h1 (by simp [m])) (fun m => h2 (by simp [m])) h.2
    exact ⟨by rw [h.1, e1], e2⟩

theorem text1_inj {p q : Int × Int} (h : boxText1 p = boxText1 q) : p = q := by
  unfold boxText1 at h
  obtain ⟨h1, h2⟩ := cut_first (itoa_no p.2).1 (itoa_no q.2).1 h
  exact Prod.ext (itoa_inj h2) (itoa_inj h1)

theorem text1_no (p : Int × Int) : (32 : UInt8) ∉ boxText1 p := by
  unfold boxText1
  intro h
  rcases List.mem_append.1 h with h | h
  · exact (itoa_no _).2 h
  · rcases List.mem_cons.1 h with h | h
    · simp at h
    · exact (itoa_no _).2 h

theorem text1_ne (p : Int × Int) : boxText1 p ≠ [] := by
  unfold boxText1; simp

/-- The text, from its head on. -/
def textOf : List (Int × Int) → List UInt8
  | [] => []
  | [p] => boxText1 p
  | p :: q :: r => boxText1 p ++ (32 :: textOf (q :: r))

theorem textOf_snoc (xs : List (Int × Int)) (p : Int × Int) : textOf (xs ++ [p]) = textOf xs ++ ((if xs = [] then [] else [32]) ++ boxText1 p) := by
  induction xs with
  | nil => simp [textOf]
  | cons a r ih =>
    cases r with
    | nil => simp [textOf]
    | cons b r =>
      have : textOf (b :: r ++ [p]) = textOf (b :: r) ++ (32 :: boxText1 p) := by simpa using ih
      simp only [List.cons_append, textOf] at this ⊢
      rw [this]; simp

theorem textTo_eq (xs : List (Int × Int)) (k : Nat) (hk : k ≤ xs.length) : textTo xs k = textOf (xs.take k) := by
  induction k with
  | zero => simp [textTo, textOf]
  | succ k ih =>
    have hlt : k < xs.length := by omega
    rw [textTo, ih (by omega), List.take_succ_eq_append_getElem hlt, textOf_snoc]
    have e : xs.getD k (0, 0) = xs[k] := by simp [List.getD, hlt]
    rw [e]
    by_cases h0 : k = 0
    · simp [h0]
    · have : xs.take k ≠ [] := by
        intro h
        have := congrArg List.length h
        rw [List.length_take, List.length_nil] at this
        omega
      simp [h0, this]

theorem textOf_inj : ∀ {xs ys : List (Int × Int)}, textOf xs = textOf ys → xs = ys
  | [], [], _ => rfl
  | [], [q], h => absurd h.symm (text1_ne q)
  | [], q :: q2 :: r, h => by
    have := congrArg List.length h
    simp [textOf] at this
  | [p], [], h => absurd h (text1_ne p)
  | p :: p2 :: r, [], h => by
    have := congrArg List.length h
    simp [textOf] at this
  | [p], [q], h => by rw [text1_inj h]
  | [p], q :: q2 :: r, h => by
    exfalso
    have : (32 : UInt8) ∈ boxText1 p := by
      rw [show boxText1 p = _ from h]; simp [textOf]
    exact text1_no p this
  | p :: p2 :: r, [q], h => by
    exfalso
    have : (32 : UInt8) ∈ boxText1 q := by
      rw [show boxText1 q = _ from h.symm]; simp [textOf]
    exact text1_no q this
  | p :: p2 :: r, q :: q2 :: s, h => by
    simp only [textOf] at h
    obtain ⟨h1, h2⟩ := cut_first (text1_no p) (text1_no q) h
    rw [text1_inj h1, textOf_inj h2]

theorem textTo_inj {xs ys : List (Int × Int)} (h : textTo xs xs.length = textTo ys ys.length) : xs = ys := by
  rw [textTo_eq _ _ (Nat.le_refl _), textTo_eq _ _ (Nat.le_refl _), List.take_length, List.take_length] at h
  exact textOf_inj h

theorem str_inj {a b : List UInt8} (h : str a = str b) : a = b := by
  rw [← str_list a, h, str_list]

theorem text_same (xs ys : List (Int × Int)) : (xs == ys) = decide (str (textTo xs xs.length) = str (textTo ys ys.length)) := by
  by_cases h : xs = ys
  · subst h; simp
  · have : ¬ str (textTo xs xs.length) = str (textTo ys ys.length) := fun e => h (textTo_inj (str_inj e))
    simp [h, this]
end Go.Proofs.YtipbabkbmiaalaaDoor.Own
