/-
  Own text: plain mathematics of reading numbers: what strconv.Atoi says of a number's own text, which texts are a number's; the pieces of a text between signs.
-/
import Derived.Test.YtbcnmmofccackaaGreatDoorNumMath
import Derived.Test.YtbcnmmofccackaaGreatDoorBase
import Derived.Lib.AtoiAll
import Derived.Lib.IndexMore
namespace Go.Proofs.YtbcnmmofccackaaGreatDoor.Own
set_option linter.unusedVariables false
set_option linter.unusedSimpArgs false

def digStep (a : Nat) (c : UInt8) : Nat := a * 10 + (c.toNat - 48)
theorem dig_ge (l : List UInt8) : ∀ a, a ≤ l.foldl digStep a := by
  induction l with
  | nil => intro a; exact Nat.le_refl _
  | cons c r ih => intro a; have := ih (digStep a c); simp only [List.foldl_cons]; unfold digStep at *; omega

theorem parse_fold (l : List UInt8) : ∀ a, (∀ c ∈ l, 48 ≤ c.toNat ∧ c.toNat ≤ 57) → l.foldl digStep a < 18446744073709551616 → Lib.parseUint10 a l = .ok (l.foldl digStep a) := by
  induction l with
  | nil => intro a _ _; rfl
  | cons c r ih =>
    intro a hd hl
    have h1 := hd c (by simp)
    simp only [List.foldl_cons] at hl ⊢
    have h2 := dig_ge r (digStep a c)
    have h3 : digStep a c < 18446744073709551616 := by omega
    have h4 : digStep a c = a * 10 + (c.toNat - 48) := rfl
    simp only [Lib.parseUint10]
    rw [if_pos h1, if_neg (by omega), if_neg (by omega), ← h4]
    exact ih _ (fun d m => hd d (by simp [m])) hl

theorem dec_fold (u : Nat) : (Lib.decDigits u).foldl digStep 0 = u := decVal_dec u

theorem parseMag_dec (u : Nat) (h : u < 18446744073709551616) : Lib.parseMag (Lib.decDigits u) = .ok u := by
  unfold Lib.parseMag
  rw [if_neg (dec_ne_nil u), parse_fold _ _ (dec_digit u) (by rw [dec_fold]; exact h), dec_fold]

theorem atoi_itoa (n : Int) (h : Fits n) : Lib.atoiAll (Lib.itoa n) = .ok n := by
  obtain ⟨h1, h2⟩ := h
  by_cases hn : n < 0
  · rw [itoa_neg' n hn]
    simp only [Lib.atoiAll]
    have e : ((45 : UInt8).toNat = 43 ∨ (45 : UInt8).toNat = 45) := .inr rfl
    rw [if_pos e, parseMag_dec _ (by omega)]
    have e2 : (45 : UInt8).toNat = 45 := rfl
    simp only [e2, not_true_eq_false, false_and, if_false, true_and]
    rw [if_neg (by omega)]
    simp only [if_true]
    congr 1
    omega
  · rw [itoa_pos' n hn]
    cases hl : Lib.decDigits n.toNat with
    | nil => exact absurd hl (dec_ne_nil _)
    | cons c r =>
      have hd := dec_digit n.toNat c (by rw [hl]; simp)
      have hp := parseMag_dec n.toNat (by omega)
      rw [hl] at hp
      simp only [Lib.atoiAll]
      rw [if_neg (by omega), hp]
      have e3 : ¬ c.toNat = 45 := by omega
      simp only [e3, not_false_eq_true, true_and, false_and, if_false]
      rw [if_neg (by omega)]
      congr 1
      omega

/-- Digits, none of them needless. -/
def Canon (l : List UInt8) : Prop := l ≠ [] ∧ (∀ c ∈ l, 48 ≤ c.toNat ∧ c.toNat ≤ 57) ∧ (l.head? = some 48 → l.length = 1)

theorem byte_ext {a b : UInt8} (h : a.toNat = b.toNat) : a = b := UInt8.toNat_inj.1 h
theorem byte_of (c : UInt8) (h : 48 ≤ c.toNat ∧ c.toNat ≤ 57) : UInt8.ofNat (48 + (c.toNat - 48)) = c := by
  apply byte_ext
  rw [UInt8.toNat_ofNat']; omega

theorem fold_pos (l : List UInt8) (h : Canon l) (h0 : l.head? ≠ some 48) : 1 ≤ l.foldl digStep 0 := by
  obtain ⟨h1, h2, h3⟩ := h
  cases l with
  | nil => exact absurd rfl h1
  | cons c r =>
    have hc := h2 c (by simp)
    have : c.toNat ≠ 48 := fun e => h0 (by simp; exact byte_ext e)
    have := dig_ge r (digStep 0 c)
    simp only [List.foldl_cons]
    unfold digStep at *
    omega

theorem canon_dec : ∀ (n : Nat) (l : List UInt8), l.length = n → Canon l → Lib.decDigits (l.foldl digStep 0) = l := by
  intro n
  induction n using Nat.strongRecOn with
  | ind n ih =>
    intro l hn h
    rcases List.eq_nil_or_concat l with hl | ⟨q, d, hl⟩
    · exact absurd hl h.1
    rw [List.concat_eq_append] at hl
    subst hl
    have hd := h.2.1 d (by simp)
    rw [List.foldl_append]
    simp only [List.foldl_cons, List.foldl_nil]
    by_cases hq : q = []
    · subst hq
      simp only [List.foldl_nil, List.nil_append, digStep]
      rw [Lib.decDigits_one (by omega)]
      simp only [Nat.zero_mul, Nat.zero_add]
      rw [byte_of d hd]
    · have h0 : q.head? ≠ some 48 := by
        intro e
        have := h.2.2 (by cases q with | nil => exact absurd rfl hq | cons a b => simpa using e)
        cases q with
        | nil => exact absurd rfl hq
        | cons a b => simp at this
      have hqc : Canon q := ⟨hq, fun c m => h.2.1 c (by simp [m]), fun e => absurd e h0⟩
      have hp := fold_pos q hqc h0
      have hlen : q.length < n := by rw [← hn]; simp
      rw [Lib.decDigits, dif_neg (by unfold digStep at *; omega)]
      have e1 : digStep (q.foldl digStep 0) d / 10 = q.foldl digStep 0 := by unfold digStep; omega
      have e2 : digStep (q.foldl digStep 0) d % 10 = d.toNat - 48 := by unfold digStep; omega
      rw [e1, e2, ih q.length hlen q rfl hqc, byte_of d hd]

theorem dec_canon (u : Nat) : Canon (Lib.decDigits u) := by
  refine ⟨dec_ne_nil u, dec_digit u, ?_⟩
  induction u using Nat.strongRecOn with
  | ind u ih =>
    rw [Lib.decDigits]
    split
    · simp
    · rename_i h
      intro e
      exfalso
      have hne := dec_ne_nil (u / 10)
      have e' : (Lib.decDigits (u / 10)).head? = some 48 := by
        cases hl : Lib.decDigits (u / 10) with
        | nil => exact absurd hl hne
        | cons a b => rw [hl] at e; simpa using e
      have hl := ih (u / 10) (by omega) e'
      have hv := dec_fold (u / 10)
      cases hq : Lib.decDigits (u / 10) with
      | nil => exact absurd hq hne
      | cons a b =>
        rw [hq] at hl hv e'
        simp at hl e'
        subst hl e'
        simp [digStep] at hv
        omega

theorem fold_lt (l : List UInt8) (h : ∀ c ∈ l, 48 ≤ c.toNat ∧ c.toNat ≤ 57) : ∀ a, l.foldl digStep a < (a + 1) * 10 ^ l.length := by
  induction l with
  | nil => intro a; simp
  | cons c r ih =>
    intro a
    have hc := h c (by simp)
    have := ih (fun d m => h d (by simp [m])) (digStep a c)
    simp only [List.foldl_cons, List.length_cons]
    refine Nat.lt_of_lt_of_le this ?_
    rw [Nat.pow_succ, Nat.mul_comm (10 ^ r.length) 10, ← Nat.mul_assoc]
    refine Nat.mul_le_mul_right _ ?_
    unfold digStep; omega

theorem dec_len (u k : Nat) (hk : 0 < k) (h : u < 10 ^ k) : (Lib.decDigits u).length ≤ k := by
  induction k generalizing u with
  | zero => omega
  | succ k ih =>
    rw [Lib.decDigits]
    split
    · simp
    · rename_i h9
      rw [List.length_append]
      have hk0 : 0 < k := by
        rcases Nat.eq_zero_or_pos k with rfl | h0
        · simp at h; omega
        · exact h0
      have := ih (u / 10) hk0 (by rw [Nat.pow_succ] at h; omega)
      simp; omega

def Small (n : Int) : Prop := -100000000000000000 < n ∧ n < 100000000000000000
theorem Small.fits {n : Int} (h : Small n) : Fits n := by unfold Small at h; unfold Fits; omega

theorem fold_small (r : List UInt8) (h : Canon r) (hl : r.length ≤ 17) : r.foldl digStep 0 < 100000000000000000 := by
  have h1 := fold_lt r h.2.1 0
  have h2 : (0 + 1) * 10 ^ r.length ≤ 10 ^ 17 := by rw [Nat.zero_add, Nat.one_mul]; exact Nat.pow_le_pow_right (by decide) hl
  exact Nat.lt_of_lt_of_le h1 h2

theorem num_good_pos (r : List UInt8) (h : Canon r) (hl : r.length ≤ 17) : Lib.itoa (r.foldl digStep 0 : Nat) = r ∧ Small (r.foldl digStep 0 : Nat) := by
  have := fold_small r h hl
  refine ⟨?_, by unfold Small; omega⟩
  rw [itoa_pos' _ (by omega)]
  simp only [Int.toNat_natCast]
  exact canon_dec _ r rfl h

theorem num_good_neg (r : List UInt8) (h : Canon r) (hl : r.length ≤ 17) (h0 : r.head? ≠ some 48) : Lib.itoa (-(r.foldl digStep 0 : Nat)) = 45 :: r ∧ Small (-(r.foldl digStep 0 : Nat)) := by
  have := fold_small r h hl
  have := fold_pos r h h0
  refine ⟨?_, by unfold Small; omega⟩
  rw [itoa_neg' _ (by omega)]
  simp only [Int.natAbs_neg, Int.natAbs_natCast]
  rw [canon_dec _ r rfl h]

theorem num_of (n : Int) (hs : Small n) : (∃ r, Lib.itoa n = 45 :: r ∧ Canon r ∧ r.length ≤ 17 ∧ r.head? ≠ some 48) ∨ ((Lib.itoa n).head? ≠ some 45 ∧ Canon (Lib.itoa n) ∧ (Lib.itoa n).length ≤ 17) := by
  unfold Small at hs
  by_cases hn : n < 0
  · refine .inl ⟨_, itoa_neg' n hn, dec_canon _, dec_len _ 17 (by decide) (by omega), fun e => ?_⟩
    have h1 := (dec_canon n.natAbs).2.2 e
    have h2 := dec_fold n.natAbs
    cases hq : Lib.decDigits n.natAbs with
    | nil => exact absurd hq (dec_ne_nil _)
    | cons a b =>
      rw [hq] at h1 h2 e
      simp at h1 e
      subst h1 e
      simp [digStep] at h2
      omega
  · refine .inr ?_
    rw [itoa_pos' n hn]
    refine ⟨fun e => ?_, dec_canon _, dec_len _ 17 (by decide) (by omega)⟩
    cases hq : Lib.decDigits n.toNat with
    | nil => exact absurd hq (dec_ne_nil _)
    | cons a b =>
      rw [hq] at e
      simp at e
      exact dec_no_minus _ b (by rw [hq, e])

/-- A text that is cut at the first of a sign, or has none. -/
theorem index1 (c : UInt8) : ∀ l : List UInt8, (c ∉ l ∧ Lib.index l [c] = -1) ∨ ∃ A B, l = A ++ c :: B ∧ c ∉ A ∧ Lib.index l [c] = A.length
  | [] => .inl ⟨by simp, rfl⟩
  | b :: l => by
    by_cases hb : c = b
    · subst hb
      exact .inr ⟨[], l, rfl, by simp, by simp [Lib.index]⟩
    · rcases index1 c l with ⟨h1, h2⟩ | ⟨A, B, h1, h2, h3⟩
      · exact .inl ⟨by simp [hb, h1], by simp [Lib.index, hb, h2]⟩
      · refine .inr ⟨b :: A, B, by rw [h1]; rfl, by simp [hb, h2], ?_⟩
        have : ¬ ((A.length : Int) = -1) := by omega
        simp [Lib.index, hb, h3, this]

theorem cut1 (c : UInt8) (l : List UInt8) : (c ∉ l ∧ Lib.cut l [c] = (l, [], false)) ∨ ∃ A B, l = A ++ c :: B ∧ c ∉ A ∧ Lib.cut l [c] = (A, B, true) := by
  rcases index1 c l with ⟨h1, h2⟩ | ⟨A, B, h1, h2, h3⟩
  · refine .inl ⟨h1, ?_⟩
    unfold Lib.cut; rw [h2, if_neg (by omega)]
  · refine .inr ⟨A, B, h1, h2, ?_⟩
    unfold Lib.cut; rw [h3, if_pos (by omega)]
    rw [h1]
    simp

/-- The pieces of a text between signs c. -/
def cutAll (c : UInt8) : List UInt8 → List UInt8 → List (List UInt8)
  | acc, [] => [acc]
  | acc, x :: r => if x = c then acc :: cutAll c [] r else cutAll c (acc ++ [x]) r
def joinAll (c : UInt8) : List (List UInt8) → List UInt8
  | [] => []
  | [p] => p
  | p :: q :: r => p ++ (c :: joinAll c (q :: r))

theorem cutAll_ne (c : UInt8) : ∀ (acc l : List UInt8), cutAll c acc l ≠ []
  | acc, [] => by simp [cutAll]
  | acc, x :: r => by
    unfold cutAll
    split
    · simp
    · exact cutAll_ne c _ r
theorem cutAll_len (c : UInt8) : ∀ (acc l : List UInt8), (cutAll c acc l).length ≤ l.length + 1
  | acc, [] => by simp [cutAll]
  | acc, x :: r => by
    unfold cutAll
    split
    · have := cutAll_len c [] r; simp; omega
    · have := cutAll_len c (acc ++ [x]) r; simp; omega
theorem joinAll_cons (c : UInt8) (p : List UInt8) (ps : List (List UInt8)) (h : ps ≠ []) : joinAll c (p :: ps) = p ++ (c :: joinAll c ps) := by
  cases ps with
  | nil => exact absurd rfl h
  | cons => rfl
theorem join_cut (c : UInt8) : ∀ (acc l : List UInt8), joinAll c (cutAll c acc l) = acc ++ l
  | acc, [] => by simp [cutAll, joinAll]
  | acc, x :: r => by
    unfold cutAll
    split
    · rename_i h
      rw [joinAll_cons c _ _ (cutAll_ne c _ _), join_cut c [] r, h]; rfl
    · rw [join_cut c _ r]; simp
theorem cut_skip (c : UInt8) : ∀ (p acc r : List UInt8), c ∉ p → cutAll c acc (p ++ r) = cutAll c (acc ++ p) r
  | [], acc, r, _ => by simp
  | x :: p, acc, r, h => by
    have hx : ¬ x = c := fun e => h (by simp [e])
    rw [List.cons_append]
    unfold cutAll
    rw [if_neg hx, cut_skip c p _ r (fun m => h (by simp [m]))]
    simp
    cases r <;> simp [cutAll]

theorem itoa_len8 (n : Int) (h : -1000000 ≤ n ∧ n ≤ 1000000) : (Lib.itoa n).length ≤ 8 := by
  by_cases hn : n < 0
  · rw [itoa_neg' n hn]
    have := dec_len n.natAbs 7 (by decide) (by omega)
    simp; omega
  · rw [itoa_pos' n hn]
    have := dec_len n.toNat 7 (by decide) (by omega)
    omega

theorem itoa_ne_nil (n : Int) : Lib.itoa n ≠ [] := by
  by_cases h : n < 0
  · rw [itoa_neg' n h]; simp
  · rw [itoa_pos' n h]; exact dec_ne_nil _

/-- The number of a text, as writing tells it. -/
def ReadsNum (B : Int → Prop) (l : List UInt8) (e : Ending) : Prop :=
  (∃ n, B n ∧ Lib.itoa n = l ∧ e = .returned (.tuple #[.int .i64 n, .bool true])) ∨ ((∀ n, B n → Lib.itoa n ≠ l) ∧ e = .returned (.tuple #[.int .i64 0, .bool false]))

theorem cut_no (c : UInt8) : ∀ (acc l : List UInt8), c ∉ acc → ∀ x ∈ cutAll c acc l, c ∉ x
  | acc, [], ha, x, hx => by simp [cutAll] at hx; rw [hx]; exact ha
  | acc, y :: r, ha, x, hx => by
    unfold cutAll at hx
    split at hx
    · rcases List.mem_cons.1 hx with rfl | hx
      · exact ha
      · exact cut_no c [] r (by simp) x hx
    · rename_i hy
      exact cut_no c (acc ++ [y]) r (by simp [ha]; exact fun e => hy e.symm) x hx
end Go.Proofs.YtbcnmmofccackaaGreatDoor.Own
