/-
  Own text: an append of a list of pairs onto no list: what it leaves is one's own. Nothing of the program.
-/
import Derived.Test.YtfifiobcmdmefaaMarkVote
import Derived.Test.YtfifiobcmdmefaaFlat
import Derived.OwnWalk
import Derived.Deep.Upon
namespace Go.Proofs.Ytfifiobcmdmefaa.Own
open Go.RowKit
set_option linter.unusedVariables false
set_option linter.unusedSimpArgs false

theorem owned2 {w : World} {e : TypeId} {base m : Nat} {v : Value} {xs : List P2} (h : w.ownsRow base e 2 v m (flat xs)) (hm : 0 < m) :
    ∃ g cap, v = .slice (some ⟨g, 0, none⟩) m cap ∧ base ≤ g ∧ m ≤ cap ∧ BoxAt w g 0 xs ∧ (∀ o, w.frozen? ⟨g, o, none⟩ = false) := by
  obtain ⟨hl, h⟩ := h
  rcases h with ⟨_, h0⟩ | ⟨g, cap, cur, hv, hb, hh, hmc, _, hsz, htk⟩
  · omega
  refine ⟨g, cap, hv, hb, hmc, ⟨(Array.getElem?_eq_some_iff.1 hh).1, fun i hi => ?_⟩, fun o => frozen_heap hh o⟩
  have e := flat_even xs i hi
  rw [flat_length] at hl
  rw [← htk] at e
  rw [cell_heap hh, cell_heap hh, Nat.zero_add]
  rw [List.getElem?_take_of_lt (by omega), List.getElem?_take_of_lt (by omega)] at e
  simpa using e
theorem flat_atP {w : World} {b off : Nat} {xs : List P2} (h : BoxAt w b off xs) (j : Nat) (v : Value) (hv : (flat xs)[j]? = some v) : w.cell? ((⟨b, off, none⟩ : Addr).add j) = some v := by
  have e : (⟨b, off, none⟩ : Addr).add j = ⟨b, off + j, none⟩ := by unfold Addr.add; split <;> simp_all
  have hl : j < (flat xs).length := (List.getElem?_eq_some_iff.1 hv).1
  rw [flat_length] at hl
  have hk : j / 2 < xs.length := by omega
  have f := flat_even _ (j / 2) hk
  have hx := h.2 (j / 2) hk
  rw [e]
  rcases Nat.mod_two_eq_zero_or_one j with m | m
  · rw [show j / 2 * 2 = j by omega] at f hx
    rw [hx.1, ← f.1, hv]
  · rw [show off + j / 2 * 2 + 1 = off + j by omega] at hx
    rw [show j / 2 * 2 + 1 = j by omega] at f
    rw [hx.2, ← f.2, hv]

theorem wpList_copyB {P : Program} {w : World} {ops : Array Oper} {rest : List Oper} {o : Oper} {a : Act} {Q : Exit → Act → World → Prop} (hgd : o.guard = none) (s x : Operand) (t : TypeId)
    (ho : o.op = .call { callee := .builtin .append, args := #[s, x], argTypes := #[t, t] }) (e : TypeId) (ht : P.underlying t = some (.slice e))
    (hi3 : (P.info? e).map (fun i => (i.zero, i.size, i.bytes)) = some (some (.agg #[.int .i64 0, .int .i64 0]), 2, 16))
    (hs : a.eval s = .slice none 0 0) (a1 : Option Addr) (c1 : Nat) (xs : List P2) (hx : a.eval x = .slice a1 xs.length c1) (hsl : Sl w a1 xs) (hl : xs.length ≤ 2 ^ 40) (H : Nat) (hH : w.heap.size = H)
    (h : ∀ a2 c2 w', OwnB w' H a2 xs → xs.length ≤ c2 → w.grownBy w' none → (∀ b, blkOf a2 xs.length = some b → H ≤ b ∧ b < w'.heap.size) → wpList P ops Q rest (a.put o.dst (.slice a2 xs.length c2)) w') : wpList P ops Q (o :: rest) a w := by
  obtain ⟨i, hi, hz, hsize, hby⟩ := info_parts hi3
  by_cases h0 : xs = []
  · subst h0
    have hsrc : Src P i.size t (.slice a1 0 c1) 0 [] w := by
      cases a1 with
      | none => exact Src.ofNil w ht c1
      | some ad => exact Src.ofSlice w ht ad 0 c1 [] (by simp) (fun j u h => by simp at h) (fun u h => by simp at h)
    have hr := run_append_nothing w t t o.type e i ht hi none 0 0 (Nat.le_refl _) _ hsrc
    have hx' : a.eval x = .slice a1 0 c1 := hx
    refine wpList_plain hgd fun K hK => ?_
    unfold Oper.wp execOp
    simp only [ho, resolve, invoke, builtin, Sem.run_bind, Sem.run_pure, Result.andThen_ok, List.map_toArray, List.map_cons, List.map_nil, hs, hx', hr]
    exact hK _ _ (h none 0 w (.inl rfl) (Nat.le_refl _) ⟨rfl, rfl, rfl, Nat.le_refl _, fun _ _ _ => rfl⟩ (fun b hb => by simp [blkOf] at hb))
  · have hpos : 0 < xs.length := List.length_pos_iff.2 h0
    rcases hsl with e' | ⟨b, off, rfl, hat⟩
    · exact absurd e' h0
    refine wpList_append_own w hgd s x t ho w.heap.size e i _ 2 16 ht hi hz hsize hby rfl (by omega) (.slice none 0 0) 0 [] hs (World.ownsRow_nil w _ e 2) ⟨b, off, none⟩ xs.length c1 (flat xs) hx (flat_length xs) (flat_atP hat) (flat_one xs) (by unfold maxLen; omega) (by omega) (Nat.le_refl _) ?_
    intro v' w' hown hgr _
    rw [Nat.zero_add, List.nil_append] at hown
    obtain ⟨g, cap, rfl, hg, hcap, hat', hfr⟩ := owned2 hown hpos
    refine h (some ⟨g, 0, none⟩) cap w' (.inr ⟨g, rfl, by omega, hat', hfr⟩) hcap hgr (fun b' hb' => ?_)
    have : g = b' := by
      unfold blkOf at hb'
      rw [if_neg (by omega)] at hb'
      simpa using hb'
    subst this
    exact ⟨by omega, hat'.1⟩
end Go.Proofs.Ytfifiobcmdmefaa.Own
