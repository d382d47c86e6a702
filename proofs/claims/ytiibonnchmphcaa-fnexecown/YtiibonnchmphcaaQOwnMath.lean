/-
  Own text: a program that puts and looks behind its end, and one that fails there: plain mathematics. Nothing of the program.
-/
import Derived.Test.YtiibonnchmphcaaQGrowMath
import Derived.Test.YtiibonnchmphcaaPk4
namespace Go.Proofs.Ytiibonnchmphcaa.Own
open Go.RowKit
set_option linter.unusedVariables false
set_option linter.unusedSimpArgs false

/-- It doesn't jump to its end or behind it. -/
def NoFar (xs : List Q4) : Prop := ∀ i, i < xs.length → (xs.getD i q0).1 = 6 → i + (xs.getD i q0).2.2.2.toNat < xs.length
theorem ok_both {bs : List P2} {xs : List Q4} (hc : (execRun bs xs).code = 0) : boxOk bs = true ∧ progOk xs = true := by
  cases e : boxOk bs && progOk xs with
  | true => simpa [Bool.and_eq_true] using e
  | false => rw [execRun_code.2 e] at hc; cases hc
theorem progOk_more {xs zs : List Q4} (h : progOk xs = true) (hl : xs.length + zs.length ≤ 10) (hz : ∀ z, z ∈ zs → insOk z = true) : progOk (xs ++ zs) = true := by
  simp only [progOk, Bool.and_eq_true, decide_eq_true_eq, List.all_append, List.all_eq_true] at h ⊢
  exact ⟨by simp; omega, h.2, hz⟩
theorem run_more {bs : List P2} {xs zs : List Q4} (hc : (execRun bs xs).code = 0) (hl : xs.length + zs.length ≤ 10) (hz : ∀ z, z ∈ zs → insOk z = true) (hj : NoFar xs) :
    execRun bs (xs ++ zs) = outR (runR bs (xs ++ zs) xs.length (runR bs xs 0 initR)) ∧ (runR bs xs 0 initR).code = 0 ∧ execRun bs xs = outR (runR bs xs 0 initR) := by
  obtain ⟨hb, hp⟩ := ok_both hc
  have hp2 := progOk_more hp hl hz
  have e1 := execRun_is hb hp
  rw [e1, outR_code] at hc
  refine ⟨?_, hc, e1⟩
  rw [execRun_is hb hp2]
  obtain ⟨e, _, hr, he⟩ := run_append bs xs zs 0 initR
  rw [hr, if_pos hc, he hj (Nat.zero_le _)]
theorem own_fail {bs : List P2} {xs : List Q4} (hc : (execRun bs xs).code = 0) (hl : xs.length ≤ 7) (hj : NoFar xs) :
    (execRun bs (xs ++ [(7, 0, 0, 0)])).puts = [] ∧ (execRun bs (xs ++ [(7, 0, 0, 0)])).code = 1 ∧ (execRun bs (xs ++ [(7, 0, 0, 0)])).reads = (execRun bs xs).reads := by
  obtain ⟨e, h0, e1⟩ := run_more (zs := [(7, 0, 0, 0)]) hc (by simp; omega) (fun z hz => by simp at hz; subst hz; rfl) hj
  rw [e, e1]
  generalize runR bs xs 0 initR = s at h0
  have hg : (xs ++ [((7 : Int), (0 : Int), (0 : Int), (0 : Int))]).getD xs.length q0 = (7, 0, 0, 0) := by simp [List.getD]
  rw [run_step (by simp) h0 (by rw [hg]; simp), hg, run_end (by simp)]
  have es : stepR bs s (7, 0, 0, 0) = { s with code := 1 } := by simp [stepR]
  rw [es, outR_puts, outR_code, outR_reads, outR_reads]
  simp
theorem own_three {bs : List P2} {xs : List Q4} {m : Nat} {v : Int} (hc : (execRun bs xs).code = 0) (hl : xs.length ≤ 7) (hj : NoFar xs) (hm : m < 4) (hv : numOk v = true) :
    (execRun bs (xs ++ [(3, 1, 0, v), (2, (m : Int), 1, 0), (1, 0, (m : Int), 0)])).puts = putP (execRun bs xs).puts m v ∧ (execRun bs (xs ++ [(3, 1, 0, v), (2, (m : Int), 1, 0), (1, 0, (m : Int), 0)])).code = 0 ∧ (execRun bs (xs ++ [(3, 1, 0, v), (2, (m : Int), 1, 0), (1, 0, (m : Int), 0)])).reads = (execRun bs xs).reads ∧ (execRun bs (xs ++ [(3, 1, 0, v), (2, (m : Int), 1, 0), (1, 0, (m : Int), 0)])).val = v := by
  obtain ⟨zs, hzs⟩ : ∃ zs : List Q4, zs = [(3, 1, 0, v), (2, (m : Int), 1, 0), (1, 0, (m : Int), 0)] := ⟨_, rfl⟩
  rw [← hzs]
  have hok : ∀ z, z ∈ zs → insOk z = true := fun z hz => by
    rw [hzs] at hz
    simp at hz
    rcases hz with rfl | rfl | rfl
    · rw [insOk_3, numOk_eq, hv]; rfl
    · rw [insOk_2, regOk_of m hm]; rfl
    · rw [insOk_1, regOk_of m hm]; rfl
  have hz3 : zs.length = 3 := by rw [hzs]; rfl
  obtain ⟨e, h0, e1⟩ := run_more (zs := zs) hc (by omega) hok hj
  have iv := inv_of (bs := bs) (ok_both hc).2
  rw [e, e1]
  have h4 := iv.four
  generalize runR bs xs 0 initR = s at h0 h4
  have ga : (xs ++ zs).getD xs.length q0 = (3, 1, 0, v) := by rw [hzs]; simp [List.getD]
  have gb : (xs ++ zs).getD (xs.length + 1) q0 = (2, (m : Int), 1, 0) := by rw [hzs]; simp [List.getD]
  have gc : (xs ++ zs).getD (xs.length + 1 + 1) q0 = (1, 0, (m : Int), 0) := by
    rw [hzs, List.getD, List.getElem?_append_right (by omega)]
    simp [show xs.length + 1 + 1 - xs.length = 2 by omega]
  have sa : stepR bs s (3, 1, 0, v) = { s with regs := s.regs.set 1 v } := by simp [stepR, setReg, hv, h0]
  have r1 : (s.regs.set 1 v).getD 1 0 = v := by simp [List.getD, h4]
  have hh : hasBox (putP s.puts m v) m = true := by
    rw [hasBox_iff, putP_fst]
    cases e : hasBox s.puts m with
    | true => rw [if_pos rfl]; exact hasBox_iff.1 e
    | false => rw [if_neg (by simp)]; simp
  have hin : inBox bs (putP s.puts m v) m = v := by
    have h := inBox_put_same s.puts m v
    unfold inBox at h ⊢
    rw [if_pos hh] at h ⊢
    exact h
  have sb : stepR bs { s with regs := s.regs.set 1 v } (2, (m : Int), 1, 0) = { s with regs := s.regs.set 1 v, puts := putP s.puts m v } := by
    simp [stepR]
    rw [← List.getD_eq_getElem?_getD, r1]
  have sc : stepR bs { s with regs := s.regs.set 1 v, puts := putP s.puts m v } (1, 0, (m : Int), 0) = { s with regs := (s.regs.set 1 v).set 0 v, puts := putP s.puts m v } := by
    simp [stepR, setReg, lookR, hh, hin, hv, h0]
  rw [run_step (by simp [hz3]) h0 (by rw [ga]; simp), ga, sa, run_step (s := { s with regs := s.regs.set 1 v }) (by simp [hz3]) h0 (by rw [gb]; simp), gb, sb, run_step (s := { s with regs := s.regs.set 1 v, puts := putP s.puts m v }) (by simp [hz3]) h0 (by rw [gc]; simp), gc, sc, run_end (by simp [hz3])]
  rw [outR_puts, outR_code, outR_reads, outR_val, outR_puts, outR_reads, if_pos h0, if_pos h0, if_pos h0]
  refine ⟨rfl, h0, rfl, ?_⟩
  simp [List.getD, h4]
theorem put_mem (ys : List P2) (m : Nat) (v : Int) : ((m : Int), v) ∈ putP ys m v := by
  unfold putP
  cases e : hasBox ys m with
  | true =>
    rw [if_pos rfl, idx_at e]
    have := idx_lt e
    rw [List.mem_iff_getElem]
    exact ⟨idxBox ys m, by simpa using this, by simp⟩
  | false => rw [if_neg (by simp)]; simp
/-- How often a pair stands in a list. -/
def cnt (q : P2) (ys : List P2) : Nat := (ys.filter fun p => p == q).length
theorem cnt_none {q : P2} {ys : List P2} (h : q.1 ∉ ys.map Prod.fst) : cnt q ys = 0 := by
  unfold cnt
  rw [List.length_eq_zero_iff, List.filter_eq_nil_iff]
  intro p hp
  simp only [beq_iff_eq]
  rintro rfl
  exact h (List.mem_map.2 ⟨p, hp, rfl⟩)
theorem cnt_one {q : P2} : ∀ {ys : List P2}, (ys.map Prod.fst).Nodup → q ∈ ys → cnt q ys = 1
  | [], _, h => by simp at h
  | y :: r, hn, h => by
    simp only [List.map_cons, List.nodup_cons] at hn
    by_cases e : y = q
    · subst e
      have := cnt_none hn.1
      unfold cnt at this ⊢
      simp [List.filter_cons, this]
    · have h' : q ∈ r := by
        rcases List.mem_cons.1 h with h | h
        · exact absurd h.symm e
        · exact h
      have := cnt_one hn.2 h'
      unfold cnt at this ⊢
      rw [List.filter_cons, if_neg (by simpa using e)]
      exact this
theorem cnt_succ {q : P2} {ys : List P2} {k : Nat} (hk : k < ys.length) : cnt q (ys.take (k + 1)) = cnt q (ys.take k) + if ys.getD k (0, 0) = q then 1 else 0 := by
  unfold cnt
  rw [← List.take_append_getElem hk, List.filter_append, List.length_append]
  congr 1
  by_cases e : ys[k] = q
  · simp [List.getD, hk, e]
  · simp [List.getD, hk, e]
theorem own_cnt {bs : List P2} {xs : List Q4} {m : Nat} {v : Int} (hc : (execRun bs xs).code = 0) (hl : xs.length ≤ 7) (hj : NoFar xs) (hm : m < 4) (hv : numOk v = true) :
    cnt ((m : Int), v) (execRun bs (xs ++ [(3, 1, 0, v), (2, (m : Int), 1, 0), (1, 0, (m : Int), 0)])).puts = 1 := by
  obtain ⟨h1, h2, _, _⟩ := own_three hc hl hj hm hv
  have hok := ok_both h2
  refine cnt_one ?_ (by rw [h1]; exact put_mem _ _ _)
  rw [execRun_is hok.1 hok.2, outR_code] at h2
  rw [execRun_is hok.1 hok.2, outR_puts, if_pos h2]
  exact (inv_of (bs := bs) hok.2).ptN
end Go.Proofs.Ytiibonnchmphcaa.Own
