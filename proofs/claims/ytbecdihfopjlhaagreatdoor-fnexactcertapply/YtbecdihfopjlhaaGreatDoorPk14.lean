/-
  Own texts, bundled: RunFacts2, OwnBox.
-/
import Derived.Test.YtbecdihfopjlhaaGreatDoorPk13
import Derived.Test.YtbecdihfopjlhaaGreatDoorPk7
import Derived.Test.YtbecdihfopjlhaaGreatDoorPk3
import Derived.OwnWalk
namespace Go.Proofs.YtbecdihfopjlhaaGreatDoor.Own
open Go.RowKit
set_option linter.unusedVariables false

theorem len_le_of_sub : ∀ {l m : List Int}, l.Nodup → (∀ x, x ∈ l → x ∈ m) → l.length ≤ m.length
  | [], m, _, _ => Nat.zero_le _
  | x :: l, m, hn, hs => by
    rw [List.nodup_cons] at hn
    have hx := hs x (by simp)
    have := len_le_of_sub (l := l) (m := m.erase x) hn.2 (fun y hy => by
      rw [List.mem_erase_of_ne (by rintro rfl; exact hn.1 hy)]
      exact hs y (by simp [hy]))
    rw [List.length_erase_of_mem hx] at this
    have hm : 0 < m.length := List.length_pos_of_mem hx
    simp only [List.length_cons]
    omega

theorem mem_boxesTo {f : Q4 → Int → Bool} {xs : List Q4} {k j : Nat} : (j : Int) ∈ boxesTo f xs k ↔ j < k ∧ xs.any (fun p => f p (j : Int)) = true := by
  induction k with
  | zero => simp [boxesTo]
  | succ k ih =>
    simp only [boxesTo, List.mem_append, ih]
    constructor
    · rintro (⟨h1, h2⟩ | h)
      · exact ⟨by omega, h2⟩
      · split at h
        · rename_i e
          simp at h
          have : j = k := by omega
          subst this
          exact ⟨by omega, e⟩
        · simp at h
    · rintro ⟨h1, h2⟩
      by_cases e : j = k
      · subst e; right; rw [if_pos h2]; simp
      · left; exact ⟨by omega, h2⟩

theorem okAll_of {f : Int → Bool} {ys : List P2} (hn : (ys.map Prod.fst).Nodup) (h : ∀ p, p ∈ ys → regOk p.1 = true ∧ f p.2 = true) : okAll f ys = true := by
  rw [okAll_iff]
  intro i hi
  have hm : ys.getD i (0, 0) ∈ ys := by simp [List.getD, hi]
  obtain ⟨h1, h2⟩ := h _ hm
  simp only [okAt, h1, h2, Bool.true_and, Bool.not_eq_true', List.any_eq_false, beq_iff_eq]
  intro p hp e
  obtain ⟨j, hj, rfl⟩ := List.getElem_of_mem hp
  rw [List.length_take] at hj
  rw [List.getElem_take] at e
  have hj' : j < ys.length := by omega
  have := List.pairwise_iff_getElem.1 hn j i (by simpa using hj') (by simpa using hi) (by omega)
  simp only [List.getElem_map] at this
  rw [List.getD_eq_getElem?_getD, List.getElem?_eq_getElem hi] at e
  exact this e

theorem progOk_ins {xs : List Q4} (h : progOk xs = true) : ∀ p, p ∈ xs → insOk p = true := by
  simp only [progOk, Bool.and_eq_true, List.all_eq_true] at h
  exact h.2

/-- The end of a run on what is ok. -/
theorem inv_of {bs : List P2} {xs : List Q4} (hp : progOk xs = true) : Inv bs xs (runR bs xs 0 initR) := (Inv.init bs xs).run (progOk_ins hp) 0 _

theorem outR_reads (s : RunSt) : (outR s).reads = s.reads := by unfold outR; split <;> rfl
theorem outR_puts (s : RunSt) : (outR s).puts = if s.code = 0 then s.puts else [] := by unfold outR; split <;> rfl
theorem outR_code (s : RunSt) : (outR s).code = s.code := by
  unfold outR; split
  · rename_i h; exact h.symm
  · rfl
theorem outR_val (s : RunSt) : (outR s).val = if s.code = 0 then s.regs.getD 0 0 else 0 := by unfold outR; split <;> rfl

theorem reads_ok {bs : List P2} {xs : List Q4} {s : RunSt} (hb : boxOk bs = true) (h : Inv bs xs s) : okAll verOk s.reads = true := by
  refine okAll_of h.rdN fun p hp => ?_
  obtain ⟨j, hj, rfl, _⟩ := h.rd p hp
  have := boxOk_ver hb j hj
  exact ⟨regOk_of j hj, by simp only [verOk, Bool.and_eq_true, decide_eq_true_eq]; exact this⟩
theorem puts_ok {bs : List P2} {xs : List Q4} {s : RunSt} (h : Inv bs xs s) : okAll numOk s.puts = true := by
  refine okAll_of h.ptN fun p hp => ?_
  obtain ⟨j, hj, e, hv, _⟩ := h.pt p hp
  exact ⟨by rw [e]; exact regOk_of j hj, hv⟩
theorem okAll_nil (f : Int → Bool) : okAll f [] = true := rfl

theorem out_ok {bs : List P2} {xs : List Q4} {s : RunSt} (hb : boxOk bs = true) (h : Inv bs xs s) : execOk (outR s).reads (outR s).puts (outR s).val (outR s).code = true := by
  unfold outR
  split
  · rename_i hc
    simp only [execOk, endOk, if_true, Bool.and_eq_true]
    exact ⟨⟨h.num hc 0 (by omega), reads_ok hb h⟩, puts_ok h⟩
  · rename_i hc
    have e : s.code = 1 ∨ s.code = 2 := by rcases h.code with e | e | e; exact absurd e hc; exact .inl e; exact .inr e
    simp only [execOk, endOk, if_neg hc, if_pos e, List.length_nil, decide_true, Bool.and_true, Bool.and_eq_true]
    exact ⟨by simp [reads_ok hb h], okAll_nil _⟩

theorem execRun_ok (bs : List P2) (xs : List Q4) : execOk (execRun bs xs).reads (execRun bs xs).puts (execRun bs xs).val (execRun bs xs).code = true := by
  unfold execRun
  cases hb : boxOk bs <;> cases hp : progOk xs
  · rfl
  · rfl
  · rfl
  · exact out_ok hb (inv_of hp)

theorem execRun_is {bs : List P2} {xs : List Q4} (hb : boxOk bs = true) (hp : progOk xs = true) : execRun bs xs = outR (runR bs xs 0 initR) := by simp [execRun, hb, hp]
theorem execRun_form {bs : List P2} {xs : List Q4} (h : (boxOk bs && progOk xs) = false) : execRun bs xs = ⟨[], [], 0, 3⟩ := by simp [execRun, h]

theorem reads_few {bs : List P2} {xs : List Q4} {s : RunSt} (h : Inv bs xs s) : s.reads.length ≤ (boxesTo loadsQ xs 4).length := by
  have := len_le_of_sub (l := s.reads.map Prod.fst) (m := boxesTo loadsQ xs 4) h.rdN (fun x hx => by
    rw [List.mem_map] at hx
    obtain ⟨p, hp, rfl⟩ := hx
    obtain ⟨j, hj, rfl, ha⟩ := h.rd p hp
    exact mem_boxesTo.2 ⟨hj, ha⟩)
  simpa using this
theorem puts_few {bs : List P2} {xs : List Q4} {s : RunSt} (h : Inv bs xs s) : s.puts.length ≤ (boxesTo putsQ xs 4).length := by
  have := len_le_of_sub (l := s.puts.map Prod.fst) (m := boxesTo putsQ xs 4) h.ptN (fun x hx => by
    rw [List.mem_map] at hx
    obtain ⟨p, hp, rfl⟩ := hx
    obtain ⟨j, hj, e, _, ha⟩ := h.pt p hp
    rw [e]
    exact mem_boxesTo.2 ⟨hj, ha⟩)
  simpa using this
theorem boxesTo_len' (f : Q4 → Int → Bool) (xs : List Q4) (k : Nat) : (boxesTo f xs k).length ≤ k := by
  induction k with
  | zero => simp [boxesTo]
  | succ k ih => simp only [boxesTo, List.length_append]; split <;> simp <;> omega
theorem execRun_few (bs : List P2) (xs : List Q4) : (execRun bs xs).reads.length ≤ (boxesTo loadsQ xs 4).length ∧ (execRun bs xs).puts.length ≤ (boxesTo putsQ xs 4).length := by
  cases h : boxOk bs && progOk xs with
  | false => rw [execRun_form h]; exact ⟨Nat.zero_le _, Nat.zero_le _⟩
  | true =>
    simp only [Bool.and_eq_true] at h
    rw [execRun_is h.1 h.2, outR_reads, outR_puts]
    have hi := inv_of (bs := bs) h.2
    refine ⟨reads_few hi, ?_⟩
    split
    · exact puts_few hi
    · exact Nat.zero_le _
theorem execRun_four (bs : List P2) (xs : List Q4) : (execRun bs xs).reads.length ≤ 4 ∧ (execRun bs xs).puts.length ≤ 4 := by
  have := execRun_few bs xs
  have h1 := boxesTo_len' loadsQ xs 4
  have h2 := boxesTo_len' putsQ xs 4
  omega

theorem freshAt_of {bs : List P2} {j : Nat} : freshAt bs ((j : Int), (bs.getD j (0, 0)).1) = true := by simp [freshAt]
theorem execRun_fresh {bs : List P2} {xs : List Q4} (hb : boxOk bs = true) (hp : progOk xs = true) : execFresh bs (execRun bs xs).reads (execRun bs xs).puts (execRun bs xs).val (execRun bs xs).code = true := by
  simp only [execFresh, hb, execRun_ok, Bool.true_and]
  rw [execRun_is hb hp, outR_reads, List.all_eq_true]
  intro p hp'
  obtain ⟨j, hj, rfl, _⟩ := (inv_of (bs := bs) hp).rd p hp'
  exact freshAt_of

/-- On other boxes that are the same where it looked a run is the same. -/
theorem execRun_same {bs bs' : List P2} {xs : List Q4} (hb : boxOk bs = true) (hb' : boxOk bs' = true) (hp : progOk xs = true) (h : ∀ j : Nat, j < 4 → hasBox (execRun bs xs).reads j = true → bs'.getD j (0, 0) = bs.getD j (0, 0)) : execRun bs' xs = execRun bs xs := by
  rw [execRun_is hb hp, execRun_is hb' hp]
  rw [execRun_is hb hp, outR_reads] at h
  rw [run_same bs bs' xs 0 initR]
  intro j hj
  have hi := inv_of (bs := bs) hp
  have hj' := hj
  rw [List.mem_map] at hj
  obtain ⟨p, hp', e⟩ := hj
  obtain ⟨i, hi4, rfl, _⟩ := hi.rd p hp'
  simp only at e
  have : i = j := by omega
  subst this
  exact h i hi4 (hasBox_iff.2 hj')

/-- On boxes of the same numbers, where the program can look, a run does the same. -/
theorem execRun_alike {bs bs' : List P2} {xs : List Q4} (hb : boxOk bs = true) (hb' : boxOk bs' = true) (hv : ∀ j : Nat, j < 4 → (j : Int) ∈ boxesTo loadsQ xs 4 → (bs.getD j (0, 0)).2 = (bs'.getD j (0, 0)).2) : (execRun bs xs).puts = (execRun bs' xs).puts ∧ (execRun bs xs).val = (execRun bs' xs).val ∧ (execRun bs xs).code = (execRun bs' xs).code := by
  cases hp : progOk xs with
  | false => rw [execRun_form (by simp [hp]), execRun_form (by simp [hp])]; exact ⟨rfl, rfl, rfl⟩
  | true =>
    rw [execRun_is hb hp, execRun_is hb' hp]
    have := run_alike (bs := bs) (bs' := bs') (xs := xs) (fun p hp' e => by
      have hi := progOk_ins hp p hp'
      obtain ⟨kd, a, b, n⟩ := p
      simp only at e
      subst e
      rw [insOk_1] at hi
      simp only [Bool.and_eq_true] at hi
      obtain ⟨j, hj, rfl⟩ := regOk_nat hi.1.2
      simp only [Int.toNat_natCast]
      exact hv j hj (mem_boxesTo.2 ⟨hj, by rw [List.any_eq_true]; exact ⟨_, hp', by simp [loadsQ]⟩⟩)) 0 initR initR ⟨rfl, rfl, rfl, rfl⟩
    rw [outR_puts, outR_puts, outR_val, outR_val, outR_code, outR_code, this.puts, this.regs, this.code]
    exact ⟨rfl, rfl, rfl⟩
end Go.Proofs.YtbecdihfopjlhaaGreatDoor.Own

namespace Go.Proofs.YtbecdihfopjlhaaGreatDoor.Own
open Go.RowKit

theorem owned_box {w : World} {base m : Nat} {v : Value} {xs : List (Int × Int)} (h : w.ownsRow base 42 2 v m (flat xs)) (hm : 0 < m) :
    ∃ g cap, v = .slice (some ⟨g, 0, none⟩) m cap ∧ base ≤ g ∧ m ≤ cap ∧ BoxAt w g 0 xs ∧ (∀ o, w.frozen? ⟨g, o, none⟩ = false) := by
  obtain ⟨hl, h⟩ := h
  rcases h with ⟨_, h0⟩ | ⟨g, cap, cur, hv, hb, hh, hmc, _, hsz, htk⟩
  · omega
  refine ⟨g, cap, hv, hb, hmc, ⟨(Array.getElem?_eq_some_iff.1 hh).1, fun i hi => ?_⟩, fun o => frozen_heap hh o⟩
  have e := flat_even xs i hi
  rw [flat_length] at hl
  rw [← htk] at e
  rw [cell_heap hh, cell_heap hh, Nat.zero_add]
  rw [List.getElem?_take_of_lt (by omega), List.getElem?_take_of_lt (by omega)] at e
  simpa using e

theorem flat_at0 {w : World} {b : Nat} {xs : List (Int × Int)} (h : BoxAt w b 0 xs) (j : Nat) (v : Value) (hv : (flat xs)[j]? = some v) : w.cell? ((⟨b, 0, none⟩ : Addr).add j) = some v := by
  have e : (⟨b, 0, none⟩ : Addr).add j = ⟨b, j, none⟩ := by unfold Addr.add; split <;> simp_all
  have hl : j < (flat xs).length := (List.getElem?_eq_some_iff.1 hv).1
  rw [flat_length] at hl
  have hk : j / 2 < xs.length := by omega
  have f := flat_even _ (j / 2) hk
  have hx := h.2 (j / 2) hk
  rw [Nat.zero_add] at hx
  rw [e]
  rcases Nat.mod_two_eq_zero_or_one j with m | m
  · rw [show j / 2 * 2 = j by omega] at f hx
    rw [hx.1, ← f.1, hv]
  · rw [show j / 2 * 2 + 1 = j by omega] at f hx
    rw [hx.2, ← f.2, hv]

theorem own_empty (w : World) (N : Nat) (hN : w.heap.size = N) : (w.alloc (.cells #[] 42)).ownsRow N 42 2 (.slice (some ⟨N, 0, none⟩) 0 0) 0 [] := by
  subst hN
  exact ⟨rfl, .inr ⟨w.heap.size, 0, #[], rfl, Nat.le_refl _, heap_new _ _, Nat.le_refl _, by unfold maxLen; omega, rfl, rfl⟩⟩

theorem small_max {n : Nat} (h : n ≤ 4) : 0 + n ≤ maxLen := by unfold maxLen; omega

/-- What an append onto an empty row of one's own leaves. -/
theorem grown_box {w w' : World} {v' : Value} {xs : List (Int × Int)} {N : Nat} (hN : w.heap.size = N) (hl : 0 < xs.length) (h : w'.ownsRow N 42 2 v' xs.length (flat xs)) (hg : (w.alloc (.cells #[] 42)).grownBy w' (Value.slice (some ⟨N, 0, none⟩) 0 0).ownBlock) :
    ∃ g cap, v' = .slice (some ⟨g, 0, none⟩) xs.length cap ∧ N ≤ g ∧ xs.length ≤ cap ∧ BoxAt w' g 0 xs ∧ (∀ o, w'.frozen? ⟨g, o, none⟩ = false) ∧ Below N w w' := by
  subst hN
  obtain ⟨g, cap, h1, h2, h3, h4, h5⟩ := owned_box h hl
  refine ⟨g, cap, h1, h2, h3, h4, h5, ?_⟩
  refine Below.grown ((Below.refl _ _).alloc (Nat.le_refl _) _) hg (by rw [size_new]; omega) ?_
  intro k hk
  simp only [Value.ownBlock] at hk
  injection hk with hk
  omega

theorem flat_atO {w : World} {b off : Nat} {xs : List (Int × Int)} (h : BoxAt w b off xs) (j : Nat) (v : Value) (hv : (flat xs)[j]? = some v) : w.cell? ((⟨b, off, none⟩ : Addr).add j) = some v := by
  have e : (⟨b, off, none⟩ : Addr).add j = ⟨b, off + j, none⟩ := by unfold Addr.add; split <;> simp_all
  have hl : j < (flat xs).length := (List.getElem?_eq_some_iff.1 hv).1
  rw [flat_length] at hl
  have hk : j / 2 < xs.length := by omega
  have f := flat_even _ (j / 2) hk
  have hx := h.2 (j / 2) hk
  rw [e]
  rcases Nat.mod_two_eq_zero_or_one j with m | m
  · rw [show j / 2 * 2 = j by omega] at f hx
    rw [hx.1, ← f.1, hv]
  · rw [show off + j / 2 * 2 + 1 = off + j by omega] at hx
    rw [show j / 2 * 2 + 1 = j by omega] at f
    rw [hx.2, ← f.2, hv]

theorem infoBoxO : (Tryz.prog.info? 42).map (fun i => (i.zero, i.size, i.bytes)) = some (some (.agg #[.int .i64 0, .int .i64 0]), 2, 16) := by kernel_rfl
end Go.Proofs.YtbecdihfopjlhaaGreatDoor.Own
