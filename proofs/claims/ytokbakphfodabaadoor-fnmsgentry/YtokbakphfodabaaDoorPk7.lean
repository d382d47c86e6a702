/-
  Own texts, bundled: RunFacts, RunFacts2, InsOkS, ProgOkS.
-/
import Derived.Test.YtokbakphfodabaaDoorPk4
import Derived.Test.YtokbakphfodabaaDoorPk5
import Derived.Test.YtokbakphfodabaaDoorPk6
namespace Go.Proofs.YtokbakphfodabaaDoor.Own
open Go.RowKit
set_option linter.unusedVariables false

theorem run_jump {bs : List P2} {xs : List Q4} {k : Nat} {s : RunSt} (hk : k < xs.length) (hc : s.code = 0) (h6 : (xs.getD k q0).1 = 6) (hl : s.regs.getD (xs.getD k q0).2.1.toNat 0 < s.regs.getD (xs.getD k q0).2.2.1.toNat 0) : runR bs xs k s = runR bs xs (k + (xs.getD k q0).2.2.2.toNat + 1) s := by
  rw [runR, dif_pos hk, if_pos hc, if_pos h6, if_pos hl]
theorem run_go {bs : List P2} {xs : List Q4} {k : Nat} {s : RunSt} (hk : k < xs.length) (hc : s.code = 0) (h6 : (xs.getD k q0).1 = 6) (hl : ¬ s.regs.getD (xs.getD k q0).2.1.toNat 0 < s.regs.getD (xs.getD k q0).2.2.1.toNat 0) : runR bs xs k s = runR bs xs (k + 1) s := by
  rw [runR, dif_pos hk, if_pos hc, if_pos h6, if_neg hl]
theorem run_step {bs : List P2} {xs : List Q4} {k : Nat} {s : RunSt} (hk : k < xs.length) (hc : s.code = 0) (h6 : ¬ (xs.getD k q0).1 = 6) : runR bs xs k s = runR bs xs (k + 1) (stepR bs s (xs.getD k q0)) := by
  rw [runR, dif_pos hk, if_pos hc, if_neg h6]
theorem run_stop {bs : List P2} {xs : List Q4} {k : Nat} {s : RunSt} (hc : ¬ s.code = 0) : runR bs xs k s = s := by
  rw [runR]
  by_cases hk : k < xs.length
  · rw [dif_pos hk, if_neg hc]
  · rw [dif_neg hk]
theorem run_end {bs : List P2} {xs : List Q4} {k : Nat} {s : RunSt} (hk : ¬ k < xs.length) : runR bs xs k s = s := by
  rw [runR, dif_neg hk]

/-- What holds of a run at each of its instructions. -/
structure Inv (bs : List P2) (xs : List Q4) (s : RunSt) : Prop where
  four : s.regs.length = 4
  num : s.code = 0 → ∀ i, i < 4 → numOk (s.regs.getD i 0) = true
  code : s.code = 0 ∨ s.code = 1 ∨ s.code = 2
  rd : ∀ p, p ∈ s.reads → ∃ j : Nat, j < 4 ∧ p = ((j : Int), (bs.getD j (0, 0)).1) ∧ xs.any (fun q => loadsQ q (j : Int)) = true
  rdN : (s.reads.map Prod.fst).Nodup
  pt : ∀ p, p ∈ s.puts → ∃ j : Nat, j < 4 ∧ p.1 = (j : Int) ∧ numOk p.2 = true ∧ xs.any (fun q => putsQ q (j : Int)) = true
  ptN : (s.puts.map Prod.fst).Nodup

theorem hasBox_iff {ys : List P2} {j : Nat} : hasBox ys j = true ↔ (j : Int) ∈ ys.map Prod.fst := by
  simp [hasBox, List.any_eq_true]
theorem hasBox_no {ys : List P2} {j : Nat} : hasBox ys j = false ↔ (j : Int) ∉ ys.map Prod.fst := by
  rw [← Bool.not_eq_true, hasBox_iff]
theorem nodup_snoc {l : List Int} {x : Int} (h : l.Nodup) (hx : x ∉ l) : (l ++ [x]).Nodup := by
  rw [List.nodup_append]
  refine ⟨h, by simp, fun a ha b hb e => ?_⟩
  simp at hb
  subst hb e
  exact hx ha
theorem idx_lt {ys : List P2} {j : Nat} (h : hasBox ys j = true) : idxBox ys j < ys.length := by
  unfold hasBox at h
  rw [List.any_eq_true] at h
  obtain ⟨x, hx, hp⟩ := h
  exact List.findIdx_lt_length_of_exists ⟨x, hx, hp⟩
theorem idx_at {ys : List P2} {j : Nat} (h : hasBox ys j = true) : (ys.getD (idxBox ys j) (0, 0)).1 = (j : Int) := by
  have hl := idx_lt h
  have := List.findIdx_getElem (p := fun p : P2 => p.1 == (j : Int)) (xs := ys) (w := hl)
  rw [List.getD_eq_getElem?_getD, List.getElem?_eq_getElem hl]
  simp only [beq_iff_eq] at this
  exact this
theorem putP_fst (ys : List P2) (j : Nat) (n : Int) : (putP ys j n).map Prod.fst = if hasBox ys j then ys.map Prod.fst else ys.map Prod.fst ++ [(j : Int)] := by
  unfold putP
  cases h : hasBox ys j with
  | false => simp
  | true =>
    simp only [if_true]
    apply List.ext_getElem?
    intro i
    simp only [List.getElem?_map, List.getElem?_set]
    have hl := idx_lt h
    by_cases e : idxBox ys j = i
    · subst e
      simp [hl, List.getD]
    · simp [e]
theorem putP_mem {ys : List P2} {j : Nat} {n : Int} {p : P2} (hp : p ∈ putP ys j n) : p ∈ ys ∨ p = ((j : Int), n) := by
  unfold putP at hp
  cases h : hasBox ys j with
  | false => rw [h] at hp; simpa using hp
  | true =>
    rw [h] at hp
    simp only [if_true] at hp
    rcases List.mem_or_eq_of_mem_set hp with h' | h'
    · exact .inl h'
    · rw [idx_at h] at h'; exact .inr h'

theorem numOk_eq : numOk2 = numOk := rfl
theorem getD_setI (xs : List Int) (i j : Nat) (v : Int) (hi : i < xs.length) : (xs.set i v).getD j 0 = if i = j then v else xs.getD j 0 := by
  simp only [List.getD_eq_getElem?_getD, List.getElem?_set]
  by_cases e : i = j
  · simp [e, show j < xs.length by omega]
  · simp [e]

theorem Inv.setReg {bs : List P2} {xs : List Q4} {s : RunSt} (h : Inv bs xs s) (hc : s.code = 0) (a : Nat) (ha : a < 4) (n : Int) : Inv bs xs (setReg s a n) := by
  refine ⟨by simp [Own.setReg, h.four], fun hc' i hi => ?_, ?_, h.rd, h.rdN, h.pt, h.ptN⟩
  · simp only [Own.setReg] at hc' ⊢
    rw [getD_setI _ _ _ _ (by rw [h.four]; exact ha)]
    by_cases e : a = i
    · rw [if_pos e]
      cases hn : numOk n with
      | true => rfl
      | false => rw [hn] at hc'; simp at hc'
    · rw [if_neg e]; exact h.num hc i hi
  · simp only [Own.setReg]
    split
    · exact h.code
    · simp

theorem lookR_cases (bs xs ys : List P2) (j : Nat) : lookR bs xs ys j = xs ∨ (hasBox ys j = false ∧ hasBox xs j = false ∧ lookR bs xs ys j = xs ++ [((j : Int), (bs.getD j (0, 0)).1)]) := by
  unfold lookR
  cases hasBox ys j <;> cases hasBox xs j <;> simp

theorem Inv.step {bs : List P2} {xs : List Q4} {s : RunSt} (h : Inv bs xs s) (hc : s.code = 0) (p : Q4) (hp : insOk p = true) (hm : p ∈ xs) (h6 : p.1 ≠ 6) : Inv bs xs (stepR bs s p) := by
  obtain ⟨kd, a, b, n⟩ := p
  simp only [stepR]
  split
  · rename_i e; subst e
    rw [insOk_1] at hp
    simp only [Bool.and_eq_true] at hp
    obtain ⟨na, hna, rfl⟩ := regOk_nat hp.1.1
    obtain ⟨nb, hnb, rfl⟩ := regOk_nat hp.1.2
    simp only [Int.toNat_natCast]
    have h' : Inv bs xs { s with reads := lookR bs s.reads s.puts nb } := by
      refine ⟨h.four, h.num, h.code, fun p hp' => ?_, ?_, h.pt, h.ptN⟩
      · rcases lookR_cases bs s.reads s.puts nb with e | ⟨_, _, e⟩
        · simp only [e] at hp'; exact h.rd p hp'
        · simp only [e, List.mem_append, List.mem_singleton] at hp'
          rcases hp' with hp' | rfl
          · exact h.rd p hp'
          · exact ⟨nb, hnb, rfl, by rw [List.any_eq_true]; exact ⟨_, hm, by simp [loadsQ]⟩⟩
      · rcases lookR_cases bs s.reads s.puts nb with e | ⟨_, h2, e⟩
        · simp only [e]; exact h.rdN
        · simp only [e, List.map_append, List.map_cons, List.map_nil]
          exact nodup_snoc h.rdN (hasBox_no.1 h2)
    exact h'.setReg hc na hna _
  split
  · rename_i e; subst e
    rw [insOk_2] at hp
    simp only [Bool.and_eq_true] at hp
    obtain ⟨na, hna, rfl⟩ := regOk_nat hp.1.1
    obtain ⟨nb, hnb, rfl⟩ := regOk_nat hp.1.2
    simp only [Int.toNat_natCast]
    refine ⟨h.four, h.num, h.code, h.rd, h.rdN, fun p hp' => ?_, ?_⟩
    · rcases putP_mem hp' with h' | rfl
      · exact h.pt p h'
      · exact ⟨na, hna, rfl, h.num hc nb hnb, by rw [List.any_eq_true]; exact ⟨_, hm, by simp [putsQ]⟩⟩
    · simp only [putP_fst]
      split
      · exact h.ptN
      · rename_i e
        exact nodup_snoc h.ptN (hasBox_no.1 (by simpa using e))
  split
  · rename_i e; subst e
    rw [insOk_3] at hp
    simp only [Bool.and_eq_true] at hp
    obtain ⟨na, hna, rfl⟩ := regOk_nat hp.1.1
    exact h.setReg hc na hna _
  split
  · rename_i e; subst e
    rw [insOk_4] at hp
    simp only [Bool.and_eq_true] at hp
    obtain ⟨na, hna, rfl⟩ := regOk_nat hp.1.1
    exact h.setReg hc na hna _
  split
  · rename_i e; subst e
    rw [insOk_5] at hp
    simp only [Bool.and_eq_true] at hp
    obtain ⟨na, hna, rfl⟩ := regOk_nat hp.1.1
    exact h.setReg hc na hna _
  · exact ⟨h.four, fun e => by simp at e, by simp, h.rd, h.rdN, h.pt, h.ptN⟩

theorem Inv.init (bs : List P2) (xs : List Q4) : Inv bs xs initR := by
  refine ⟨rfl, fun _ i hi => ?_, .inl rfl, fun p hp => by simp [initR] at hp, by simp [initR], fun p hp => by simp [initR] at hp, by simp [initR]⟩
  have : i = 0 ∨ i = 1 ∨ i = 2 ∨ i = 3 := by omega
  rcases this with rfl | rfl | rfl | rfl <;> rfl

theorem getD_mem {xs : List Q4} {k : Nat} (h : k < xs.length) : xs.getD k q0 ∈ xs := by simp [List.getD, h]

theorem Inv.run {bs : List P2} {xs : List Q4} (hx : ∀ p, p ∈ xs → insOk p = true) (k : Nat) (s : RunSt) (h : Inv bs xs s) : Inv bs xs (runR bs xs k s) := by
  induction k, s using runR.induct (xs := xs) (bs := bs) with
  | case1 k s hk hc h6 hl ih => rw [run_jump hk hc h6 hl]; exact ih h
  | case2 k s hk hc h6 hl ih => rw [run_go hk hc h6 hl]; exact ih h
  | case3 k s hk hc h6 ih => rw [run_step hk hc h6]; exact ih (h.step hc _ (hx _ (getD_mem hk)) (getD_mem hk) h6)
  | case4 k s hk hc => rw [run_stop hc]; exact h
  | case5 k s hk => rw [run_end hk]; exact h

/-- The reads only grow. -/
theorem step_reads (bs : List P2) (s : RunSt) (p : Q4) : ∃ r, (stepR bs s p).reads = s.reads ++ r := by
  simp only [stepR]
  split
  · simp only [setReg]
    rcases lookR_cases bs s.reads s.puts p.2.2.1.toNat with e | ⟨_, _, e⟩
    · exact ⟨[], by simp [e]⟩
    · exact ⟨_, e⟩
  repeat' split
  all_goals exact ⟨[], by simp [setReg]⟩
theorem run_reads (bs : List P2) (xs : List Q4) (k : Nat) (s : RunSt) : ∃ r, (runR bs xs k s).reads = s.reads ++ r := by
  induction k, s using runR.induct (xs := xs) (bs := bs) with
  | case1 k s hk hc h6 hl ih => rw [run_jump hk hc h6 hl]; exact ih
  | case2 k s hk hc h6 hl ih => rw [run_go hk hc h6 hl]; exact ih
  | case3 k s hk hc h6 ih =>
    rw [run_step hk hc h6]
    obtain ⟨r, hr⟩ := ih
    obtain ⟨r', hr'⟩ := step_reads bs s (xs.getD k q0)
    exact ⟨r' ++ r, by rw [hr, hr', List.append_assoc]⟩
  | case4 k s hk hc => rw [run_stop hc]; exact ⟨[], by simp⟩
  | case5 k s hk => rw [run_end hk]; exact ⟨[], by simp⟩

/-- On boxes that are the same where a run looked it is the same. -/
theorem run_same (bs bs' : List P2) (xs : List Q4) (k : Nat) (s : RunSt) (h : ∀ j : Nat, (j : Int) ∈ (runR bs xs k s).reads.map Prod.fst → bs'.getD j (0, 0) = bs.getD j (0, 0)) : runR bs' xs k s = runR bs xs k s := by
  induction k, s using runR.induct (xs := xs) (bs := bs) with
  | case1 k s hk hc h6 hl ih =>
    rw [run_jump hk hc h6 hl] at h
    rw [run_jump hk hc h6 hl, run_jump (bs := bs) hk hc h6 hl, ih h]
  | case2 k s hk hc h6 hl ih =>
    rw [run_go hk hc h6 hl] at h
    rw [run_go hk hc h6 hl, run_go (bs := bs) hk hc h6 hl, ih h]
  | case3 k s hk hc h6 ih =>
    rw [run_step hk hc h6] at h
    have e : stepR bs' s (xs.getD k q0) = stepR bs s (xs.getD k q0) := by
      obtain ⟨r, hr⟩ := run_reads bs xs (k + 1) (stepR bs s (xs.getD k q0))
      rw [hr] at h
      generalize xs.getD k q0 = p at h
      clear hr ih
      unfold stepR at h ⊢
      by_cases h1 : p.1 = 1
      · rw [if_pos h1, if_pos h1]
        rw [if_pos h1] at h
        simp only [setReg] at h
        have hb : hasBox s.puts p.2.2.1.toNat = true ∨ (hasBox s.puts p.2.2.1.toNat = false ∧ bs'.getD p.2.2.1.toNat (0, 0) = bs.getD p.2.2.1.toNat (0, 0)) := by
          cases hp : hasBox s.puts p.2.2.1.toNat with
          | true => exact .inl rfl
          | false =>
            refine .inr ⟨rfl, h _ ?_⟩
            rw [List.map_append, List.mem_append]
            left
            unfold lookR
            rw [hp]
            cases hq : hasBox s.reads p.2.2.1.toNat with
            | true => simpa using hasBox_iff.1 hq
            | false => simp
        rcases hb with hb | ⟨hb, hb'⟩
        · simp only [lookR, inBox, hb, if_true]
        · simp only [lookR, inBox, hb, hb']
      · rw [if_neg h1, if_neg h1]
    rw [run_step hk hc h6, run_step (bs := bs) hk hc h6, e, ih h]
  | case4 k s hk hc => rw [run_stop hc, run_stop hc]
  | case5 k s hk => rw [run_end hk, run_end hk]

/-- The same but for how often boxes were written. -/
structure Alike2 (s t : RunSt) : Prop where
  regs : s.regs = t.regs
  reads : s.reads.map Prod.fst = t.reads.map Prod.fst
  puts : s.puts = t.puts
  code : s.code = t.code

theorem hasBox_map {xs ys : List P2} (h : xs.map Prod.fst = ys.map Prod.fst) (j : Nat) : hasBox xs j = hasBox ys j := by
  cases e : hasBox ys j with
  | true => rw [hasBox_iff, h, ← hasBox_iff]; exact e
  | false => rw [hasBox_no, h, ← hasBox_no]; exact e

theorem step_alike {bs bs' : List P2} {s t : RunSt} (h : Alike2 s t) (p : Q4) (hv : p.1 = 1 → (bs.getD p.2.2.1.toNat (0, 0)).2 = (bs'.getD p.2.2.1.toNat (0, 0)).2) : Alike2 (stepR bs s p) (stepR bs' t p) := by
  obtain ⟨h1, h2, h3, h4⟩ := h
  unfold stepR
  by_cases e1 : p.1 = 1
  · rw [if_pos e1, if_pos e1]
    have hi : inBox bs s.puts p.2.2.1.toNat = inBox bs' t.puts p.2.2.1.toNat := by unfold inBox; rw [h3, hv e1]
    rw [hi]
    refine ⟨by simp only [setReg, h1], ?_, h3, by simp only [setReg, h4]⟩
    simp only [setReg, lookR, h3, hasBox_map h2]
    split
    · exact h2
    split
    · exact h2
    · simp [h2]
  rw [if_neg e1, if_neg e1]
  split
  · exact ⟨h1, h2, by simp only [h1, h3], h4⟩
  split
  · exact ⟨by simp only [setReg, h1], h2, h3, by simp only [setReg, h4]⟩
  split
  · exact ⟨by simp only [setReg, h1], h2, h3, by simp only [setReg, h1, h4]⟩
  split
  · exact ⟨by simp only [setReg, h1], h2, h3, by simp only [setReg, h1, h4]⟩
  · exact ⟨h1, h2, h3, rfl⟩

/-- On boxes of the same numbers, where a program can look, it does the same. -/
theorem run_alike {bs bs' : List P2} {xs : List Q4} (hv : ∀ p, p ∈ xs → p.1 = 1 → (bs.getD p.2.2.1.toNat (0, 0)).2 = (bs'.getD p.2.2.1.toNat (0, 0)).2) (k : Nat) (s t : RunSt) (h : Alike2 s t) : Alike2 (runR bs xs k s) (runR bs' xs k t) := by
  induction k, s using runR.induct (xs := xs) (bs := bs) generalizing t with
  | case1 k s hk hc h6 hl ih =>
    have hc' := hc; have hl' := hl
    rw [h.code] at hc'; rw [h.regs] at hl'
    rw [run_jump hk hc h6 hl, run_jump (bs := bs') hk hc' h6 hl']; exact ih t h
  | case2 k s hk hc h6 hl ih =>
    have hc' := hc; have hl' := hl
    rw [h.code] at hc'; rw [h.regs] at hl'
    rw [run_go hk hc h6 hl, run_go (bs := bs') hk hc' h6 hl']; exact ih t h
  | case3 k s hk hc h6 ih =>
    have hc' := hc
    rw [h.code] at hc'
    rw [run_step hk hc h6, run_step (bs := bs') hk hc' h6]; exact ih _ (step_alike h _ (hv _ (getD_mem hk)))
  | case4 k s hk hc =>
    have hc' := hc
    rw [h.code] at hc'
    rw [run_stop hc, run_stop hc']; exact h
  | case5 k s hk => rw [run_end hk, run_end hk]; exact h

/-- A program that goes on: what it does ahead, and then from some place on. -/
theorem run_append (bs : List P2) (xs zs : List Q4) (k : Nat) (s : RunSt) :
    ∃ e, xs.length ≤ e ∧ runR bs (xs ++ zs) k s = (if (runR bs xs k s).code = 0 then runR bs (xs ++ zs) e (runR bs xs k s) else runR bs xs k s) ∧
      ((∀ i, i < xs.length → (xs.getD i q0).1 = 6 → i + (xs.getD i q0).2.2.2.toNat < xs.length) → k ≤ xs.length → e = xs.length) := by
  have hg : ∀ i, i < xs.length → (xs ++ zs).getD i q0 = xs.getD i q0 := fun i hi => by simp [List.getD, List.getElem?_append_left hi]
  have hl' : ∀ i, i < xs.length → i < (xs ++ zs).length := fun i hi => by simp; omega
  induction k, s using runR.induct (xs := xs) (bs := bs) with
  | case1 k s hk hc h6 hl ih =>
    obtain ⟨e, h1, h2, h3⟩ := ih
    refine ⟨e, h1, ?_, fun hn hk' => h3 hn (by have := hn k hk h6; omega)⟩
    rw [run_jump hk hc h6 hl, ← h2]
    rw [← hg k hk] at h6 hl ⊢
    rw [run_jump (hl' k hk) hc h6 hl]
  | case2 k s hk hc h6 hl ih =>
    obtain ⟨e, h1, h2, h3⟩ := ih
    refine ⟨e, h1, ?_, fun hn hk' => h3 hn (by omega)⟩
    rw [run_go hk hc h6 hl, ← h2]
    rw [← hg k hk] at h6 hl
    rw [run_go (hl' k hk) hc h6 hl]
  | case3 k s hk hc h6 ih =>
    obtain ⟨e, h1, h2, h3⟩ := ih
    refine ⟨e, h1, ?_, fun hn hk' => h3 hn (by omega)⟩
    rw [run_step hk hc h6, ← h2]
    rw [← hg k hk] at h6 ⊢
    rw [run_step (hl' k hk) hc h6]
  | case4 k s hk hc =>
    refine ⟨xs.length, Nat.le_refl _, ?_, fun _ _ => rfl⟩
    rw [run_stop hc, run_stop hc, if_neg hc]
  | case5 k s hk =>
    refine ⟨k, by omega, ?_, fun _ h => by omega⟩
    rw [run_end (xs := xs) hk]
    by_cases hc : s.code = 0
    · rw [if_pos hc]
    · rw [if_neg hc, run_stop hc]
end Go.Proofs.YtokbakphfodabaaDoor.Own

namespace Go.Proofs.YtokbakphfodabaaDoor.Own
open Go.RowKit
set_option linter.unusedVariables false

theorem len_le_of_sub : ∀ {l m : List Int}, l.Nodup → (∀ x, x ∈ l → x ∈ m) → l.length ≤ m.length
  | [], m, _, _ => Nat.zero_le _
  | x :: l, m, hn, hs => by
    rw [List.nodup_cons] at hn
    have hx := hs x (by simp)
    have := len_le_of_sub (l := l) (m := m.erase x) hn.2 (fun y hy => by
      rw [List.mem_erase_of_ne (by rintro rfl; exact hn.1 hy)]
      exact hs y (by simp [hy]))
    rw [List.length_erase_of_mem hx] at this
    have hm : 0 < m.length := List.length_pos_of_mem hx
    simp only [List.length_cons]
    omega

theorem mem_boxesTo {f : Q4 → Int → Bool} {xs : List Q4} {k j : Nat} : (j : Int) ∈ boxesTo f xs k ↔ j < k ∧ xs.any (fun p => f p (j : Int)) = true := by
  induction k with
  | zero => simp [boxesTo]
  | succ k ih =>
    simp only [boxesTo, List.mem_append, ih]
    constructor
    · rintro (⟨h1, h2⟩ | h)
      · exact ⟨by omega, h2⟩
      · split at h
        · rename_i e
          simp at h
          have : j = k := by omega
          subst this
          exact ⟨by omega, e⟩
        · simp at h
    · rintro ⟨h1, h2⟩
      by_cases e : j = k
      · subst e; right; rw [if_pos h2]; simp
      · left; exact ⟨by omega, h2⟩

theorem okAll_of {f : Int → Bool} {ys : List P2} (hn : (ys.map Prod.fst).Nodup) (h : ∀ p, p ∈ ys → regOk p.1 = true ∧ f p.2 = true) : okAll f ys = true := by
  rw [okAll_iff]
  intro i hi
  have hm : ys.getD i (0, 0) ∈ ys := by simp [List.getD, hi]
  obtain ⟨h1, h2⟩ := h _ hm
  simp only [okAt, h1, h2, Bool.true_and, Bool.not_eq_true', List.any_eq_false, beq_iff_eq]
  intro p hp e
  obtain ⟨j, hj, rfl⟩ := List.getElem_of_mem hp
  rw [List.length_take] at hj
  rw [List.getElem_take] at e
  have hj' : j < ys.length := by omega
  have := List.pairwise_iff_getElem.1 hn j i (by simpa using hj') (by simpa using hi) (by omega)
  simp only [List.getElem_map] at this
  rw [List.getD_eq_getElem?_getD, List.getElem?_eq_getElem hi] at e
  exact this e

theorem progOk_ins {xs : List Q4} (h : progOk xs = true) : ∀ p, p ∈ xs → insOk p = true := by
  simp only [progOk, Bool.and_eq_true, List.all_eq_true] at h
  exact h.2

/-- The end of a run on what is ok. -/
theorem inv_of {bs : List P2} {xs : List Q4} (hp : progOk xs = true) : Inv bs xs (runR bs xs 0 initR) := (Inv.init bs xs).run (progOk_ins hp) 0 _

theorem outR_reads (s : RunSt) : (outR s).reads = s.reads := by unfold outR; split <;> rfl
theorem outR_puts (s : RunSt) : (outR s).puts = if s.code = 0 then s.puts else [] := by unfold outR; split <;> rfl
theorem outR_code (s : RunSt) : (outR s).code = s.code := by
  unfold outR; split
  · rename_i h; exact h.symm
  · rfl
theorem outR_val (s : RunSt) : (outR s).val = if s.code = 0 then s.regs.getD 0 0 else 0 := by unfold outR; split <;> rfl

theorem reads_ok {bs : List P2} {xs : List Q4} {s : RunSt} (hb : boxOk bs = true) (h : Inv bs xs s) : okAll verOk s.reads = true := by
  refine okAll_of h.rdN fun p hp => ?_
  obtain ⟨j, hj, rfl, _⟩ := h.rd p hp
  have := boxOk_ver hb j hj
  exact ⟨regOk_of j hj, by simp only [verOk, Bool.and_eq_true, decide_eq_true_eq]; exact this⟩
theorem puts_ok {bs : List P2} {xs : List Q4} {s : RunSt} (h : Inv bs xs s) : okAll numOk s.puts = true := by
  refine okAll_of h.ptN fun p hp => ?_
  obtain ⟨j, hj, e, hv, _⟩ := h.pt p hp
  exact ⟨by rw [e]; exact regOk_of j hj, hv⟩
theorem okAll_nil (f : Int → Bool) : okAll f [] = true := rfl

theorem out_ok {bs : List P2} {xs : List Q4} {s : RunSt} (hb : boxOk bs = true) (h : Inv bs xs s) : execOk (outR s).reads (outR s).puts (outR s).val (outR s).code = true := by
  unfold outR
  split
  · rename_i hc
    simp only [execOk, endOk, if_true, Bool.and_eq_true]
    exact ⟨⟨h.num hc 0 (by omega), reads_ok hb h⟩, puts_ok h⟩
  · rename_i hc
    have e : s.code = 1 ∨ s.code = 2 := by rcases h.code with e | e | e; exact absurd e hc; exact .inl e; exact .inr e
    simp only [execOk, endOk, if_neg hc, if_pos e, List.length_nil, decide_true, Bool.and_true, Bool.and_eq_true]
    exact ⟨by simp [reads_ok hb h], okAll_nil _⟩

theorem execRun_ok (bs : List P2) (xs : List Q4) : execOk (execRun bs xs).reads (execRun bs xs).puts (execRun bs xs).val (execRun bs xs).code = true := by
  unfold execRun
  cases hb : boxOk bs <;> cases hp : progOk xs
  · rfl
  · rfl
  · rfl
  · exact out_ok hb (inv_of hp)

theorem execRun_is {bs : List P2} {xs : List Q4} (hb : boxOk bs = true) (hp : progOk xs = true) : execRun bs xs = outR (runR bs xs 0 initR) := by simp [execRun, hb, hp]
theorem execRun_form {bs : List P2} {xs : List Q4} (h : (boxOk bs && progOk xs) = false) : execRun bs xs = ⟨[], [], 0, 3⟩ := by simp [execRun, h]

theorem reads_few {bs : List P2} {xs : List Q4} {s : RunSt} (h : Inv bs xs s) : s.reads.length ≤ (boxesTo loadsQ xs 4).length := by
  have := len_le_of_sub (l := s.reads.map Prod.fst) (m := boxesTo loadsQ xs 4) h.rdN (fun x hx => by
    rw [List.mem_map] at hx
    obtain ⟨p, hp, rfl⟩ := hx
    obtain ⟨j, hj, rfl, ha⟩ := h.rd p hp
    exact mem_boxesTo.2 ⟨hj, ha⟩)
  simpa using this
theorem puts_few {bs : List P2} {xs : List Q4} {s : RunSt} (h : Inv bs xs s) : s.puts.length ≤ (boxesTo putsQ xs 4).length := by
  have := len_le_of_sub (l := s.puts.map Prod.fst) (m := boxesTo putsQ xs 4) h.ptN (fun x hx => by
    rw [List.mem_map] at hx
    obtain ⟨p, hp, rfl⟩ := hx
    obtain ⟨j, hj, e, _, ha⟩ := h.pt p hp
    rw [e]
    exact mem_boxesTo.2 ⟨hj, ha⟩)
  simpa using this
theorem boxesTo_len' (f : Q4 → Int → Bool) (xs : List Q4) (k : Nat) : (boxesTo f xs k).length ≤ k := by
  induction k with
  | zero => simp [boxesTo]
  | succ k ih => simp only [boxesTo, List.length_append]; split <;> simp <;> omega
theorem execRun_few (bs : List P2) (xs : List Q4) : (execRun bs xs).reads.length ≤ (boxesTo loadsQ xs 4).length ∧ (execRun bs xs).puts.length ≤ (boxesTo putsQ xs 4).length := by
  cases h : boxOk bs && progOk xs with
  | false => rw [execRun_form h]; exact ⟨Nat.zero_le _, Nat.zero_le _⟩
  | true =>
    simp only [Bool.and_eq_true] at h
    rw [execRun_is h.1 h.2, outR_reads, outR_puts]
    have hi := inv_of (bs := bs) h.2
    refine ⟨reads_few hi, ?_⟩
    split
    · exact puts_few hi
    · exact Nat.zero_le _
theorem execRun_four (bs : List P2) (xs : List Q4) : (execRun bs xs).reads.length ≤ 4 ∧ (execRun bs xs).puts.length ≤ 4 := by
  have := execRun_few bs xs
  have h1 := boxesTo_len' loadsQ xs 4
  have h2 := boxesTo_len' putsQ xs 4
  omega

theorem freshAt_of {bs : List P2} {j : Nat} : freshAt bs ((j : Int), (bs.getD j (0, 0)).1) = true := by simp [freshAt]
theorem execRun_fresh {bs : List P2} {xs : List Q4} (hb : boxOk bs = true) (hp : progOk xs = true) : execFresh bs (execRun bs xs).reads (execRun bs xs).puts (execRun bs xs).val (execRun bs xs).code = true := by
  simp only [execFresh, hb, execRun_ok, Bool.true_and]
  rw [execRun_is hb hp, outR_reads, List.all_eq_true]
  intro p hp'
  obtain ⟨j, hj, rfl, _⟩ := (inv_of (bs := bs) hp).rd p hp'
  exact freshAt_of

/-- On other boxes that are the same where it looked a run is the same. -/
theorem execRun_same {bs bs' : List P2} {xs : List Q4} (hb : boxOk bs = true) (hb' : boxOk bs' = true) (hp : progOk xs = true) (h : ∀ j : Nat, j < 4 → hasBox (execRun bs xs).reads j = true → bs'.getD j (0, 0) = bs.getD j (0, 0)) : execRun bs' xs = execRun bs xs := by
  rw [execRun_is hb hp, execRun_is hb' hp]
  rw [execRun_is hb hp, outR_reads] at h
  rw [run_same bs bs' xs 0 initR]
  intro j hj
  have hi := inv_of (bs := bs) hp
  have hj' := hj
  rw [List.mem_map] at hj
  obtain ⟨p, hp', e⟩ := hj
  obtain ⟨i, hi4, rfl, _⟩ := hi.rd p hp'
  simp only at e
  have : i = j := by omega
  subst this
  exact h i hi4 (hasBox_iff.2 hj')

/-- On boxes of the same numbers, where the program can look, a run does the same. -/
theorem execRun_alike {bs bs' : List P2} {xs : List Q4} (hb : boxOk bs = true) (hb' : boxOk bs' = true) (hv : ∀ j : Nat, j < 4 → (j : Int) ∈ boxesTo loadsQ xs 4 → (bs.getD j (0, 0)).2 = (bs'.getD j (0, 0)).2) : (execRun bs xs).puts = (execRun bs' xs).puts ∧ (execRun bs xs).val = (execRun bs' xs).val ∧ (execRun bs xs).code = (execRun bs' xs).code := by
  cases hp : progOk xs with
  | false => rw [execRun_form (by simp [hp]), execRun_form (by simp [hp])]; exact ⟨rfl, rfl, rfl⟩
  | true =>
    rw [execRun_is hb hp, execRun_is hb' hp]
    have := run_alike (bs := bs) (bs' := bs') (xs := xs) (fun p hp' e => by
      have hi := progOk_ins hp p hp'
      obtain ⟨kd, a, b, n⟩ := p
      simp only at e
      subst e
      rw [insOk_1] at hi
      simp only [Bool.and_eq_true] at hi
      obtain ⟨j, hj, rfl⟩ := regOk_nat hi.1.2
      simp only [Int.toNat_natCast]
      exact hv j hj (mem_boxesTo.2 ⟨hj, by rw [List.any_eq_true]; exact ⟨_, hp', by simp [loadsQ]⟩⟩)) 0 initR initR ⟨rfl, rfl, rfl, rfl⟩
    rw [outR_puts, outR_puts, outR_val, outR_val, outR_code, outR_code, this.puts, this.regs, this.code]
    exact ⟨rfl, rfl, rfl⟩
end Go.Proofs.YtokbakphfodabaaDoor.Own

namespace Go.Proofs.YtokbakphfodabaaDoor.Own
open Go.RowKit
set_option linter.unusedVariables false
set_option linter.unusedSimpArgs false

set_option maxHeartbeats 400000 in
theorem l2Reg (n : Int) (w : World) : Calls Tryd.prog 95 #[.int .i64 n] w fun e w' => e = .returned (.bool (regOk n)) ∧ w' = w := by
  have e : Hid (regOk n = (decide (0 ≤ n) && decide (n ≤ 3))) := rfl
  generalize regOk n = r at e ⊢
  by_cases h1 : 0 ≤ n
  · by_cases h2 : n < 4
    all_goals
      go_enter Tryd.func95, Tryd.ntmps95
      go_wp2
      go_ret
      exact ⟨ret_bool (by rw [e.out]; simp [h1]; omega), rfl⟩
  · have h1' : n < 0 := by omega
    go_enter Tryd.func95, Tryd.ntmps95
    go_wp2
    go_ret
    exact ⟨ret_bool (by rw [e.out]; simp; omega), rfl⟩



set_option maxRecDepth 100000 in
set_option maxHeartbeats 2000000 in
theorem l2Ins1 (a b n : Int) (w : World) : Calls Tryd.prog 90 #[.agg #[.int .i64 1, .int .i64 a, .int .i64 b, .int .i64 n]] w fun e w' => e = .returned (.bool (regOk a && regOk b && (n == 0))) ∧ Below w.heap.size w w' := by
  cases ha : regOk a with
  | false =>
    go_enter Tryd.func90, Tryd.ntmps90
    go_wp2_with (first | (go_at_call 95; refine (l2Reg _ _).mono ?_; rintro e w' ⟨rfl, rfl⟩) | (go_at_call 74; refine (l2Box _ _).mono ?_; rintro e w' ⟨rfl, rfl⟩) | (go_at_call 45; refine (l1Num2 _ _).mono ?_; rintro e w' ⟨rfl, rfl⟩))
    go_ret
    exact ⟨ret_bool (by simp), (Below.refl _ _).alloc (Nat.le_refl _) _⟩
  | true =>
    cases hb : regOk b with
    | false =>
      go_enter Tryd.func90, Tryd.ntmps90
      go_wp2_with (first | (go_at_call 95; refine (l2Reg _ _).mono ?_; rintro e w' ⟨rfl, rfl⟩) | (go_at_call 74; refine (l2Box _ _).mono ?_; rintro e w' ⟨rfl, rfl⟩) | (go_at_call 45; refine (l1Num2 _ _).mono ?_; rintro e w' ⟨rfl, rfl⟩))
      go_ret
      exact ⟨ret_bool (by simp), (Below.refl _ _).alloc (Nat.le_refl _) _⟩
    | true =>
      cases hn : (n == 0) with
      | false =>
        go_enter Tryd.func90, Tryd.ntmps90
        go_wp2_with (first | (go_at_call 95; refine (l2Reg _ _).mono ?_; rintro e w' ⟨rfl, rfl⟩) | (go_at_call 74; refine (l2Box _ _).mono ?_; rintro e w' ⟨rfl, rfl⟩) | (go_at_call 45; refine (l1Num2 _ _).mono ?_; rintro e w' ⟨rfl, rfl⟩))
        go_ret
        exact ⟨ret_bool (by simp), (Below.refl _ _).alloc (Nat.le_refl _) _⟩
      | true =>
        go_enter Tryd.func90, Tryd.ntmps90
        go_wp2_with (first | (go_at_call 95; refine (l2Reg _ _).mono ?_; rintro e w' ⟨rfl, rfl⟩) | (go_at_call 74; refine (l2Box _ _).mono ?_; rintro e w' ⟨rfl, rfl⟩) | (go_at_call 45; refine (l1Num2 _ _).mono ?_; rintro e w' ⟨rfl, rfl⟩))
        go_ret
        exact ⟨ret_bool (by simp), (Below.refl _ _).alloc (Nat.le_refl _) _⟩

set_option maxRecDepth 100000 in
set_option maxHeartbeats 2000000 in
theorem l2Ins2 (a b n : Int) (w : World) : Calls Tryd.prog 90 #[.agg #[.int .i64 2, .int .i64 a, .int .i64 b, .int .i64 n]] w fun e w' => e = .returned (.bool (regOk a && regOk b && (n == 0))) ∧ Below w.heap.size w w' := by
  cases ha : regOk a with
  | false =>
    go_enter Tryd.func90, Tryd.ntmps90
    go_wp2_with (first | (go_at_call 95; refine (l2Reg _ _).mono ?_; rintro e w' ⟨rfl, rfl⟩) | (go_at_call 74; refine (l2Box _ _).mono ?_; rintro e w' ⟨rfl, rfl⟩) | (go_at_call 45; refine (l1Num2 _ _).mono ?_; rintro e w' ⟨rfl, rfl⟩))
    go_ret
    exact ⟨ret_bool (by simp), (Below.refl _ _).alloc (Nat.le_refl _) _⟩
  | true =>
    cases hb : regOk b with
    | false =>
      go_enter Tryd.func90, Tryd.ntmps90
      go_wp2_with (first | (go_at_call 95; refine (l2Reg _ _).mono ?_; rintro e w' ⟨rfl, rfl⟩) | (go_at_call 74; refine (l2Box _ _).mono ?_; rintro e w' ⟨rfl, rfl⟩) | (go_at_call 45; refine (l1Num2 _ _).mono ?_; rintro e w' ⟨rfl, rfl⟩))
      go_ret
      exact ⟨ret_bool (by simp), (Below.refl _ _).alloc (Nat.le_refl _) _⟩
    | true =>
      cases hn : (n == 0) with
      | false =>
        go_enter Tryd.func90, Tryd.ntmps90
        go_wp2_with (first | (go_at_call 95; refine (l2Reg _ _).mono ?_; rintro e w' ⟨rfl, rfl⟩) | (go_at_call 74; refine (l2Box _ _).mono ?_; rintro e w' ⟨rfl, rfl⟩) | (go_at_call 45; refine (l1Num2 _ _).mono ?_; rintro e w' ⟨rfl, rfl⟩))
        go_ret
        exact ⟨ret_bool (by simp), (Below.refl _ _).alloc (Nat.le_refl _) _⟩
      | true =>
        go_enter Tryd.func90, Tryd.ntmps90
        go_wp2_with (first | (go_at_call 95; refine (l2Reg _ _).mono ?_; rintro e w' ⟨rfl, rfl⟩) | (go_at_call 74; refine (l2Box _ _).mono ?_; rintro e w' ⟨rfl, rfl⟩) | (go_at_call 45; refine (l1Num2 _ _).mono ?_; rintro e w' ⟨rfl, rfl⟩))
        go_ret
        exact ⟨ret_bool (by simp), (Below.refl _ _).alloc (Nat.le_refl _) _⟩

set_option maxRecDepth 100000 in
set_option maxHeartbeats 2000000 in
theorem l2Ins3 (a b n : Int) (w : World) : Calls Tryd.prog 90 #[.agg #[.int .i64 3, .int .i64 a, .int .i64 b, .int .i64 n]] w fun e w' => e = .returned (.bool (regOk a && (b == 0) && numOk2 n)) ∧ Below w.heap.size w w' := by
  cases ha : regOk a with
  | false =>
    go_enter Tryd.func90, Tryd.ntmps90
    go_wp2_with (first | (go_at_call 95; refine (l2Reg _ _).mono ?_; rintro e w' ⟨rfl, rfl⟩) | (go_at_call 74; refine (l2Box _ _).mono ?_; rintro e w' ⟨rfl, rfl⟩) | (go_at_call 45; refine (l1Num2 _ _).mono ?_; rintro e w' ⟨rfl, rfl⟩))
    go_ret
    exact ⟨ret_bool (by simp), (Below.refl _ _).alloc (Nat.le_refl _) _⟩
  | true =>
    cases hb : (b == 0) with
    | false =>
      go_enter Tryd.func90, Tryd.ntmps90
      go_wp2_with (first | (go_at_call 95; refine (l2Reg _ _).mono ?_; rintro e w' ⟨rfl, rfl⟩) | (go_at_call 74; refine (l2Box _ _).mono ?_; rintro e w' ⟨rfl, rfl⟩) | (go_at_call 45; refine (l1Num2 _ _).mono ?_; rintro e w' ⟨rfl, rfl⟩))
      go_ret
      exact ⟨ret_bool (by simp), (Below.refl _ _).alloc (Nat.le_refl _) _⟩
    | true =>
      cases hn : numOk2 n with
      | false =>
        go_enter Tryd.func90, Tryd.ntmps90
        go_wp2_with (first | (go_at_call 95; refine (l2Reg _ _).mono ?_; rintro e w' ⟨rfl, rfl⟩) | (go_at_call 74; refine (l2Box _ _).mono ?_; rintro e w' ⟨rfl, rfl⟩) | (go_at_call 45; refine (l1Num2 _ _).mono ?_; rintro e w' ⟨rfl, rfl⟩))
        go_ret
        exact ⟨ret_bool (by simp), (Below.refl _ _).alloc (Nat.le_refl _) _⟩
      | true =>
        go_enter Tryd.func90, Tryd.ntmps90
        go_wp2_with (first | (go_at_call 95; refine (l2Reg _ _).mono ?_; rintro e w' ⟨rfl, rfl⟩) | (go_at_call 74; refine (l2Box _ _).mono ?_; rintro e w' ⟨rfl, rfl⟩) | (go_at_call 45; refine (l1Num2 _ _).mono ?_; rintro e w' ⟨rfl, rfl⟩))
        go_ret
        exact ⟨ret_bool (by simp), (Below.refl _ _).alloc (Nat.le_refl _) _⟩

set_option maxRecDepth 100000 in
set_option maxHeartbeats 2000000 in
theorem l2Ins4 (a b n : Int) (w : World) : Calls Tryd.prog 90 #[.agg #[.int .i64 4, .int .i64 a, .int .i64 b, .int .i64 n]] w fun e w' => e = .returned (.bool (regOk a && regOk b && (n == 0))) ∧ Below w.heap.size w w' := by
  cases ha : regOk a with
  | false =>
    go_enter Tryd.func90, Tryd.ntmps90
    go_wp2_with (first | (go_at_call 95; refine (l2Reg _ _).mono ?_; rintro e w' ⟨rfl, rfl⟩) | (go_at_call 74; refine (l2Box _ _).mono ?_; rintro e w' ⟨rfl, rfl⟩) | (go_at_call 45; refine (l1Num2 _ _).mono ?_; rintro e w' ⟨rfl, rfl⟩))
    go_ret
    exact ⟨ret_bool (by simp), (Below.refl _ _).alloc (Nat.le_refl _) _⟩
  | true =>
    cases hb : regOk b with
    | false =>
      go_enter Tryd.func90, Tryd.ntmps90
      go_wp2_with (first | (go_at_call 95; refine (l2Reg _ _).mono ?_; rintro e w' ⟨rfl, rfl⟩) | (go_at_call 74; refine (l2Box _ _).mono ?_; rintro e w' ⟨rfl, rfl⟩) | (go_at_call 45; refine (l1Num2 _ _).mono ?_; rintro e w' ⟨rfl, rfl⟩))
      go_ret
      exact ⟨ret_bool (by simp), (Below.refl _ _).alloc (Nat.le_refl _) _⟩
    | true =>
      cases hn : (n == 0) with
      | false =>
        go_enter Tryd.func90, Tryd.ntmps90
        go_wp2_with (first | (go_at_call 95; refine (l2Reg _ _).mono ?_; rintro e w' ⟨rfl, rfl⟩) | (go_at_call 74; refine (l2Box _ _).mono ?_; rintro e w' ⟨rfl, rfl⟩) | (go_at_call 45; refine (l1Num2 _ _).mono ?_; rintro e w' ⟨rfl, rfl⟩))
        go_ret
        exact ⟨ret_bool (by simp), (Below.refl _ _).alloc (Nat.le_refl _) _⟩
      | true =>
        go_enter Tryd.func90, Tryd.ntmps90
        go_wp2_with (first | (go_at_call 95; refine (l2Reg _ _).mono ?_; rintro e w' ⟨rfl, rfl⟩) | (go_at_call 74; refine (l2Box _ _).mono ?_; rintro e w' ⟨rfl, rfl⟩) | (go_at_call 45; refine (l1Num2 _ _).mono ?_; rintro e w' ⟨rfl, rfl⟩))
        go_ret
        exact ⟨ret_bool (by simp), (Below.refl _ _).alloc (Nat.le_refl _) _⟩

set_option maxRecDepth 100000 in
set_option maxHeartbeats 2000000 in
theorem l2Ins5 (a b n : Int) (w : World) : Calls Tryd.prog 90 #[.agg #[.int .i64 5, .int .i64 a, .int .i64 b, .int .i64 n]] w fun e w' => e = .returned (.bool (regOk a && regOk b && (n == 0))) ∧ Below w.heap.size w w' := by
  cases ha : regOk a with
  | false =>
    go_enter Tryd.func90, Tryd.ntmps90
    go_wp2_with (first | (go_at_call 95; refine (l2Reg _ _).mono ?_; rintro e w' ⟨rfl, rfl⟩) | (go_at_call 74; refine (l2Box _ _).mono ?_; rintro e w' ⟨rfl, rfl⟩) | (go_at_call 45; refine (l1Num2 _ _).mono ?_; rintro e w' ⟨rfl, rfl⟩))
    go_ret
    exact ⟨ret_bool (by simp), (Below.refl _ _).alloc (Nat.le_refl _) _⟩
  | true =>
    cases hb : regOk b with
    | false =>
      go_enter Tryd.func90, Tryd.ntmps90
      go_wp2_with (first | (go_at_call 95; refine (l2Reg _ _).mono ?_; rintro e w' ⟨rfl, rfl⟩) | (go_at_call 74; refine (l2Box _ _).mono ?_; rintro e w' ⟨rfl, rfl⟩) | (go_at_call 45; refine (l1Num2 _ _).mono ?_; rintro e w' ⟨rfl, rfl⟩))
      go_ret
      exact ⟨ret_bool (by simp), (Below.refl _ _).alloc (Nat.le_refl _) _⟩
    | true =>
      cases hn : (n == 0) with
      | false =>
        go_enter Tryd.func90, Tryd.ntmps90
        go_wp2_with (first | (go_at_call 95; refine (l2Reg _ _).mono ?_; rintro e w' ⟨rfl, rfl⟩) | (go_at_call 74; refine (l2Box _ _).mono ?_; rintro e w' ⟨rfl, rfl⟩) | (go_at_call 45; refine (l1Num2 _ _).mono ?_; rintro e w' ⟨rfl, rfl⟩))
        go_ret
        exact ⟨ret_bool (by simp), (Below.refl _ _).alloc (Nat.le_refl _) _⟩
      | true =>
        go_enter Tryd.func90, Tryd.ntmps90
        go_wp2_with (first | (go_at_call 95; refine (l2Reg _ _).mono ?_; rintro e w' ⟨rfl, rfl⟩) | (go_at_call 74; refine (l2Box _ _).mono ?_; rintro e w' ⟨rfl, rfl⟩) | (go_at_call 45; refine (l1Num2 _ _).mono ?_; rintro e w' ⟨rfl, rfl⟩))
        go_ret
        exact ⟨ret_bool (by simp), (Below.refl _ _).alloc (Nat.le_refl _) _⟩

set_option maxRecDepth 100000 in
set_option maxHeartbeats 2000000 in
theorem l2Ins7 (a b n : Int) (w : World) : Calls Tryd.prog 90 #[.agg #[.int .i64 7, .int .i64 a, .int .i64 b, .int .i64 n]] w fun e w' => e = .returned (.bool ((a == 0) && (b == 0) && (n == 0))) ∧ Below w.heap.size w w' := by
  cases ha : (a == 0) with
  | false =>
    go_enter Tryd.func90, Tryd.ntmps90
    go_wp2_with (first | (go_at_call 95; refine (l2Reg _ _).mono ?_; rintro e w' ⟨rfl, rfl⟩) | (go_at_call 74; refine (l2Box _ _).mono ?_; rintro e w' ⟨rfl, rfl⟩) | (go_at_call 45; refine (l1Num2 _ _).mono ?_; rintro e w' ⟨rfl, rfl⟩))
    go_ret
    exact ⟨ret_bool (by simp), (Below.refl _ _).alloc (Nat.le_refl _) _⟩
  | true =>
    cases hb : (b == 0) with
    | false =>
      go_enter Tryd.func90, Tryd.ntmps90
      go_wp2_with (first | (go_at_call 95; refine (l2Reg _ _).mono ?_; rintro e w' ⟨rfl, rfl⟩) | (go_at_call 74; refine (l2Box _ _).mono ?_; rintro e w' ⟨rfl, rfl⟩) | (go_at_call 45; refine (l1Num2 _ _).mono ?_; rintro e w' ⟨rfl, rfl⟩))
      go_ret
      exact ⟨ret_bool (by simp), (Below.refl _ _).alloc (Nat.le_refl _) _⟩
    | true =>
      cases hn : (n == 0) with
      | false =>
        go_enter Tryd.func90, Tryd.ntmps90
        go_wp2_with (first | (go_at_call 95; refine (l2Reg _ _).mono ?_; rintro e w' ⟨rfl, rfl⟩) | (go_at_call 74; refine (l2Box _ _).mono ?_; rintro e w' ⟨rfl, rfl⟩) | (go_at_call 45; refine (l1Num2 _ _).mono ?_; rintro e w' ⟨rfl, rfl⟩))
        go_ret
        exact ⟨ret_bool (by simp), (Below.refl _ _).alloc (Nat.le_refl _) _⟩
      | true =>
        go_enter Tryd.func90, Tryd.ntmps90
        go_wp2_with (first | (go_at_call 95; refine (l2Reg _ _).mono ?_; rintro e w' ⟨rfl, rfl⟩) | (go_at_call 74; refine (l2Box _ _).mono ?_; rintro e w' ⟨rfl, rfl⟩) | (go_at_call 45; refine (l1Num2 _ _).mono ?_; rintro e w' ⟨rfl, rfl⟩))
        go_ret
        exact ⟨ret_bool (by simp), (Below.refl _ _).alloc (Nat.le_refl _) _⟩

set_option maxRecDepth 100000 in
set_option maxHeartbeats 2000000 in
theorem l2Ins6 (a b n : Int) (w : World) : Calls Tryd.prog 90 #[.agg #[.int .i64 6, .int .i64 a, .int .i64 b, .int .i64 n]] w fun e w' => e = .returned (.bool (regOk a && regOk b && lessOk n)) ∧ Below w.heap.size w w' := by
  cases ha : regOk a with
  | false =>
    go_enter Tryd.func90, Tryd.ntmps90
    go_wp2_with (first | (go_at_call 95; refine (l2Reg _ _).mono ?_; rintro e w' ⟨rfl, rfl⟩) | (go_at_call 74; refine (l2Box _ _).mono ?_; rintro e w' ⟨rfl, rfl⟩) | (go_at_call 45; refine (l1Num2 _ _).mono ?_; rintro e w' ⟨rfl, rfl⟩))
    go_ret
    exact ⟨ret_bool (by simp), (Below.refl _ _).alloc (Nat.le_refl _) _⟩
  | true =>
    cases hb : regOk b with
    | false =>
      go_enter Tryd.func90, Tryd.ntmps90
      go_wp2_with (first | (go_at_call 95; refine (l2Reg _ _).mono ?_; rintro e w' ⟨rfl, rfl⟩) | (go_at_call 74; refine (l2Box _ _).mono ?_; rintro e w' ⟨rfl, rfl⟩) | (go_at_call 45; refine (l1Num2 _ _).mono ?_; rintro e w' ⟨rfl, rfl⟩))
      go_ret
      exact ⟨ret_bool (by simp), (Below.refl _ _).alloc (Nat.le_refl _) _⟩
    | true =>
      have e : Hid (lessOk n = (decide (1 ≤ n) && decide (n ≤ 10))) := rfl
      generalize lessOk n = r at e ⊢
      by_cases h1 : 1 ≤ n
      · by_cases h2 : n ≤ 10
        all_goals
          go_enter Tryd.func90, Tryd.ntmps90
          go_wp2_with (first | (go_at_call 95; refine (l2Reg _ _).mono ?_; rintro e w' ⟨rfl, rfl⟩) | (go_at_call 74; refine (l2Box _ _).mono ?_; rintro e w' ⟨rfl, rfl⟩) | (go_at_call 45; refine (l1Num2 _ _).mono ?_; rintro e w' ⟨rfl, rfl⟩))
          go_ret
          exact ⟨ret_bool (by rw [e.out]; simp [h1, h2]), (Below.refl _ _).alloc (Nat.le_refl _) _⟩
      · have h1' : n < 1 := by omega
        have h1'' : decide (1 ≤ n) = false := by simpa using h1
        go_enter Tryd.func90, Tryd.ntmps90
        go_wp2_with (first | (go_at_call 95; refine (l2Reg _ _).mono ?_; rintro e w' ⟨rfl, rfl⟩) | (go_at_call 74; refine (l2Box _ _).mono ?_; rintro e w' ⟨rfl, rfl⟩) | (go_at_call 45; refine (l1Num2 _ _).mono ?_; rintro e w' ⟨rfl, rfl⟩))
        go_ret
        exact ⟨ret_bool (by rw [e.out, h1'']; rfl), (Below.refl _ _).alloc (Nat.le_refl _) _⟩

/-- A kind that there is not. -/
def NoKindS (k : Int) : Prop := (k == 1) = false ∧ (k == 2) = false ∧ (k == 3) = false ∧ (k == 4) = false ∧ (k == 5) = false ∧ (k == 6) = false ∧ (k == 7) = false
theorem noKindS_of {k : Int} (h1 : k ≠ 1) (h2 : k ≠ 2) (h3 : k ≠ 3) (h4 : k ≠ 4) (h5 : k ≠ 5) (h6 : k ≠ 6) (h7 : k ≠ 7) : NoKindS k := by
  simp [NoKindS, h1, h2, h3, h4, h5, h6, h7]

set_option maxRecDepth 100000 in
set_option maxHeartbeats 2000000 in
theorem l2InsNo (k a b n : Int) (w : World) (h : NoKindS k) : Calls Tryd.prog 90 #[.agg #[.int .i64 k, .int .i64 a, .int .i64 b, .int .i64 n]] w fun e w' => e = .returned (.bool false) ∧ Below w.heap.size w w' := by
  obtain ⟨h1, h2, h3, h4, h5, h6, h7⟩ := h
  go_enter Tryd.func90, Tryd.ntmps90
  go_wp2
  go_ret
  exact ⟨rfl, (Below.refl _ _).alloc (Nat.le_refl _) _⟩

theorem l2Ins (p : Q4) (w : World) : Calls Tryd.prog 90 #[.agg #[.int .i64 p.1, .int .i64 p.2.1, .int .i64 p.2.2.1, .int .i64 p.2.2.2]] w fun e w' => e = .returned (.bool (insOk p)) ∧ Below w.heap.size w w' := by
  obtain ⟨k, a, b, n⟩ := p
  by_cases h1 : k = 1
  · subst h1; rw [insOk_1]; exact l2Ins1 a b n w
  by_cases h2 : k = 2
  · subst h2; rw [insOk_2]; exact l2Ins2 a b n w
  by_cases h3 : k = 3
  · subst h3; rw [insOk_3]; exact l2Ins3 a b n w
  by_cases h4 : k = 4
  · subst h4; rw [insOk_4]; exact l2Ins4 a b n w
  by_cases h5 : k = 5
  · subst h5; rw [insOk_5]; exact l2Ins5 a b n w
  by_cases h6 : k = 6
  · subst h6; rw [insOk_6]; exact l2Ins6 a b n w
  by_cases h7 : k = 7
  · subst h7; rw [insOk_7]; exact l2Ins7 a b n w
  · rw [insOk_no a b n ⟨h1, h2, h3, h4, h5, h6, h7⟩]
    exact l2InsNo k a b n w (noKindS_of h1 h2 h3 h4 h5 h6 h7)
end Go.Proofs.YtokbakphfodabaaDoor.Own

namespace Go.Proofs.YtokbakphfodabaaDoor.Own
open Go.RowKit
set_option linter.unusedVariables false
set_option linter.unusedSimpArgs false

set_option maxRecDepth 100000 in
set_option maxHeartbeats 1000000 in
theorem specProgOk (a : Option Addr) (c : Nat) (xs : List Q4) (w : World) (h : Sl4 w a xs) (hn : xs.length ≤ 2 ^ 40) :
    Calls Tryd.prog 81 #[.slice a xs.length c] w fun e w' => e = .returned (.bool (progOk xs)) ∧ Below w.heap.size w w' := by
  have E : Hid (progOk xs = (decide (xs.length ≤ 10) && xs.all insOk)) := rfl
  have H1 : Hid (Sl4 w a xs) := h
  clear h
  by_cases hl : xs.length ≤ 10
  · have HL : Hid (decide (xs.length ≤ 10) = true) := by show _ = _; simpa using hl
    go_enter Tryd.func81, Tryd.ntmps81
    go_wp2
    go_loopw [3] (fun i wr => ∃ k : Nat, k ≤ xs.length ∧ i = .int .i64 k ∧ Hid ((xs.take k).all insOk = true) ∧ Below w.heap.size w wr) (fun i _ => xs.length - (intOf i).toNat)
    case atStart => exact ⟨0, Nat.zero_le _, rfl, rfl, Below.refl _ _⟩
    case round =>
      obtain ⟨k, hk, rfl, hA, hB⟩ := hrel
      by_cases hlt : k < xs.length
      · rcases H1.out with h | ⟨b1, o1, rfl, h1⟩
        · subst h; simp at hlt
        have H1' : Hid (At4 w b1 o1 xs) := h1
        clear h1
        obtain ⟨p, hp⟩ : ∃ p, p = xs.getD k q0 := ⟨_, rfl⟩
        obtain ⟨ca, cb, cc, cd⟩ := H1'.out.2 k hlt
        rw [← hB.cell H1'.out.1, ← hp] at ca cb cc cd
        have HP : Hid (p = xs.getD k q0) := hp
        have HB : Hid (Below w.heap.size w wr) := hB
        clear hp hB
        have CP := fun W => l2Ins p W
        have N : Hid (insOk p = true → (xs.take (k + 1)).all insOk = true) := by
          intro t
          rw [all_take_succ q0 hlt, hA.out, ← HP.out, t]; rfl
        have F : Hid (insOk p = false → xs.all insOk = false) := fun t => all_false (k := k) q0 hlt (by rw [← HP.out]; exact t)
        generalize insOk p = r at CP N F
        obtain ⟨p1, p2, p3, p4⟩ := p
        have CP' : Hid (∀ W, Calls Tryd.prog 90 #[.agg #[.int .i64 p1, .int .i64 p2, .int .i64 p3, .int .i64 p4]] W fun e w' => e = .returned (.bool r) ∧ Below W.heap.size W w') := CP
        clear CP
        cases r with
        | true =>
          have N' : Hid ((xs.take (k + 1)).all insOk = true) := N.out rfl
          clear N F
          go_wp2_with fail
          refine (CP'.out _).mono ?_
          rintro e w1 ⟨rfl, hb1⟩
          have B1 : Hid (Below w.heap.size w w1) := HB.out.trans (hb1.mono HB.out.size)
          clear hb1
          go_wp2
          go_roundw
          case rel => exact ⟨k + 1, by omega, by go_num, N'.out, B1.out⟩
          case measure => simp [intOf]; omega
        | false =>
          have F' : Hid (xs.all insOk = false) := F.out rfl
          clear N F
          go_wp2_with fail
          refine (CP'.out _).mono ?_
          rintro e w1 ⟨rfl, hb1⟩
          have B1 : Hid (Below w.heap.size w w1) := HB.out.trans (hb1.mono HB.out.size)
          clear hb1
          go_wp2
          go_ret
          exact ⟨ret_bool (by rw [E.out, F'.out]; simp), B1.out⟩
      · go_wp2
        go_ret
        have : k = xs.length := by omega
        subst this
        refine ⟨ret_bool ?_, hB⟩
        have h := hA.out
        rw [List.take_length] at h
        rw [E.out, HL.out, h]; rfl
  · have HL : Hid (decide (xs.length ≤ 10) = false) := by show _ = _; simpa using hl
    have hl' : (10 : Int) < (xs.length : Int) := by omega
    go_enter Tryd.func81, Tryd.ntmps81
    go_wp2
    go_ret
    exact ⟨ret_bool (by rw [E.out, HL.out]; rfl), Below.refl _ _⟩
end Go.Proofs.YtokbakphfodabaaDoor.Own
