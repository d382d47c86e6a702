/-
  Own text: votes in memory of one's own, all from block B on and below block T: kept, marked, held, compared.
-/
import Derived.Test.YtbbbfnfpmaogoaaMarkVote0
import Derived.Test.YtbbbfnfpmaogoaaPutVote
import Derived.Test.YtbbbfnfpmaogoaaListGrow
import Derived.Test.YtbbbfnfpmaogoaaEqVote
namespace Go.Proofs.Ytbbbfnfpmaogoaa.Own
open Go.RowKit
set_option linter.unusedVariables false
set_option linter.unusedSimpArgs false

structure InR (w : World) (B T g : Nat) (L : List VM) : Prop where
  vs : OwnVs w B g L
  sep : Sep g L
  hi : g < T
  his : ∀ i, i < L.length → ∀ b, (blk1 (L.getD i v0) = some b ∨ blk2 (L.getD i v0) = some b) → b < T

theorem OwnB.blkS {w w' : World} {B : Nat} {a : Option Addr} {xs : List P2} (h : OwnB w B a xs) (hs : w.heap.size ≤ w'.heap.size) (hb : ∀ b, blkOf a xs.length = some b → w'.heap[b]? = w.heap[b]?) : OwnB w' B a xs := by
  rcases h with h | ⟨g, rfl, hB, h, hf⟩
  · exact .inl h
  · by_cases h0 : xs = []
    · exact .inl h0
    · have hl : xs.length ≠ 0 := fun e => h0 (List.eq_nil_of_length_eq_zero e)
      have e := hb g (by simp [blkOf, hl])
      exact .inr ⟨g, rfl, hB, h.block hs e, fun o => by rw [World.frozen?_of_block (w := w) (a := ⟨g, o, none⟩) e]; exact hf o⟩

theorem InR.keepIn {w w' : World} {B T g : Nat} {L : List VM} (h : InR w B T g L) (hs : w.heap.size ≤ w'.heap.size) (hb : ∀ b, B ≤ b → b < T → w'.heap[b]? = w.heap[b]?) : InR w' B T g L := by
  have e := hb g h.vs.lo h.hi
  refine ⟨⟨Nat.lt_of_lt_of_le h.vs.lt hs, h.vs.lo, fun o => by rw [World.frozen?_of_block (w := w) (a := ⟨g, o, none⟩) e]; exact h.vs.fr o, fun i hi => (h.vs.cell i hi).congr fun l _ => World.cell?_of_block (w := w) (a := ⟨g, i * 8 + l, none⟩) e, fun i hi => ⟨(h.vs.own i hi).1.blkS hs fun b hb' => hb b ((h.vs.own i hi).1.blkLt b hb').1 (h.his i hi b (.inl hb')), (h.vs.own i hi).2.blkS hs fun b hb' => hb b ((h.vs.own i hi).2.blkLt b hb').1 (h.his i hi b (.inr hb'))⟩⟩, h.sep, h.hi, h.his⟩

/-- A list of votes of one's own, empty or not. -/
def OwnR (w : World) (B T : Nat) (v : Value) (L : List VM) : Prop := T ≤ w.heap.size ∧ ∃ a cap, v = .slice a L.length cap ∧ (L = [] ∨ ∃ g, a = some ⟨g, 0, none⟩ ∧ InR w B T g L)
/-- The same, marked. -/
def HeldR (w : World) (B T : Nat) (v : Value) (k0 : Int) (L : List VM) : Prop := T ≤ w.heap.size ∧ ∃ a cap, v = .slice a L.length cap ∧ (L = [] ∨ ∃ g, a = some ⟨g, 0, none⟩ ∧ InR w B T g (mixV k0 L L.length))
theorem OwnR.keepIn {w w' : World} {B T : Nat} {v : Value} {L : List VM} (h : OwnR w B T v L) (hs : w.heap.size ≤ w'.heap.size) (hb : ∀ b, B ≤ b → b < T → w'.heap[b]? = w.heap[b]?) : OwnR w' B T v L := by
  obtain ⟨h1, a, cap, rfl, h2⟩ := h
  refine ⟨Nat.le_trans h1 hs, a, cap, rfl, ?_⟩
  rcases h2 with h2 | ⟨g, rfl, h2⟩
  · exact .inl h2
  · exact .inr ⟨g, rfl, h2.keepIn hs hb⟩
theorem HeldR.keepIn {w w' : World} {B T : Nat} {v : Value} {k0 : Int} {L : List VM} (h : HeldR w B T v k0 L) (hs : w.heap.size ≤ w'.heap.size) (hb : ∀ b, B ≤ b → b < T → w'.heap[b]? = w.heap[b]?) : HeldR w' B T v k0 L := by
  obtain ⟨h1, a, cap, rfl, h2⟩ := h
  refine ⟨Nat.le_trans h1 hs, a, cap, rfl, ?_⟩
  rcases h2 with h2 | ⟨g, rfl, h2⟩
  · exact .inl h2
  · exact .inr ⟨g, rfl, h2.keepIn hs hb⟩
theorem OwnR.keep {w w' : World} {B T : Nat} {v : Value} {L : List VM} (h : OwnR w B T v L) (hb : Below w.heap.size w w') : OwnR w' B T v L :=
  h.keepIn hb.size fun b _ hT => hb.block b (Nat.lt_of_lt_of_le hT h.1)
theorem HeldR.keep {w w' : World} {B T : Nat} {v : Value} {k0 : Int} {L : List VM} (h : HeldR w B T v k0 L) (hb : Below w.heap.size w w') : HeldR w' B T v k0 L :=
  h.keepIn hb.size fun b _ hT => hb.block b (Nat.lt_of_lt_of_le hT h.1)
theorem OwnR.weaken {w : World} {B B' T : Nat} {v : Value} {L : List VM} (h : OwnR w B T v L) (hB : B' ≤ B) : OwnR w B' T v L := by
  obtain ⟨h1, a, cap, rfl, h2⟩ := h
  refine ⟨h1, a, cap, rfl, ?_⟩
  rcases h2 with h2 | ⟨g, rfl, h2⟩
  · exact .inl h2
  · exact .inr ⟨g, rfl, ⟨h2.vs.lt, Nat.le_trans hB h2.vs.lo, h2.vs.fr, h2.vs.cell, fun i hi => ⟨(h2.vs.own i hi).1.weaken hB, (h2.vs.own i hi).2.weaken hB⟩⟩, h2.sep, h2.hi, h2.his⟩
theorem OwnR.raise {w : World} {B T T' : Nat} {v : Value} {L : List VM} (h : OwnR w B T v L) (hT : T ≤ T') (hw : T' ≤ w.heap.size) : OwnR w B T' v L := by
  obtain ⟨h1, a, cap, rfl, h2⟩ := h
  refine ⟨hw, a, cap, rfl, ?_⟩
  rcases h2 with h2 | ⟨g, rfl, h2⟩
  · exact .inl h2
  · exact .inr ⟨g, rfl, h2.vs, h2.sep, Nat.lt_of_lt_of_le h2.hi hT, fun i hi b hb => Nat.lt_of_lt_of_le (h2.his i hi b hb) hT⟩
theorem OwnR.form {w : World} {B T : Nat} {v : Value} {L : List VM} (h : OwnR w B T v L) : ∃ a cap, v = .slice a L.length cap ∧ SlV w a L := by
  obtain ⟨_, a, cap, rfl, h2⟩ := h
  refine ⟨a, cap, rfl, ?_⟩
  rcases h2 with h2 | ⟨g, rfl, h2⟩
  · exact .inl h2
  · exact .inr ⟨g, 0, rfl, h2.vs.at⟩

theorem OwnR.nil (w : World) (B : Nat) (a : Option Addr) (c : Nat) : OwnR w B w.heap.size (.slice a 0 c) [] := ⟨Nat.le_refl _, a, c, rfl, .inl rfl⟩
/-- A list whose votes each lie in their own memory, in a row of one's own. -/
theorem OwnR.ofVs {w : World} {B g cap : Nat} {L : List VM} (h : OwnVs w B g L) (s : Sep g L) : OwnR w B w.heap.size (.slice (some ⟨g, 0, none⟩) L.length cap) L :=
  ⟨Nat.le_refl _, _, cap, rfl, .inr ⟨g, rfl, h, s, h.lt, fun i hi b hb => by
    rcases hb with hb | hb
    · exact ((h.own i hi).1.blkLt b hb).2
    · exact ((h.own i hi).2.blkLt b hb).2⟩⟩
theorem OwnR.ofL {w : World} {B : Nat} {v : Value} {L : List VM} (h : OwnL w B v L) : OwnR w B w.heap.size v L := by
  by_cases h0 : L = []
  · subst h0
    obtain ⟨a, cap, rfl⟩ := h.form
    exact OwnR.nil w B a cap
  · obtain ⟨g, cap, rfl, _, hv, hs⟩ := h.vs h0
    exact OwnR.ofVs hv hs
theorem OwnR.ofCopy {w : World} {B b n cap : Nat} {gs : List (Nat × Nat)} {bs : List V} (h : CopyV w b gs bs) (r : RowV w b n) (hB : B ≤ b) (hn : n = bs.length) : OwnR w B w.heap.size (.slice (some ⟨b, 0, none⟩) n cap) (vmsOf gs bs) := by
  have hl := vmsOf_len gs bs
  have k1 : ∀ i, i < bs.length → ∀ b', blk1 (vmOf (gs.getD i (0, 0)) (bs.getD i (0, e0))) = some b' → b' = (gs.getD i (0, 0)).1 := fun i hi b' e => by
    unfold blk1 blkOf vmOf at e
    split at e
    · cases e
    · simpa using e.symm
  have k2 : ∀ i, i < bs.length → ∀ b', blk2 (vmOf (gs.getD i (0, 0)) (bs.getD i (0, e0))) = some b' → b' = (gs.getD i (0, 0)).2 := fun i hi b' e => by
    unfold blk2 blkOf vmOf at e
    split at e
    · cases e
    · simpa using e.symm
  have kk : ∀ i, i < bs.length → ∀ b', (blk1 (vmOf (gs.getD i (0, 0)) (bs.getD i (0, e0))) = some b' ∨ blk2 (vmOf (gs.getD i (0, 0)) (bs.getD i (0, e0))) = some b') → b' = (gs.getD i (0, 0)).1 ∨ b' = (gs.getD i (0, 0)).2 := fun i hi b' e => by
    rcases e with e | e
    · exact .inl (k1 i hi b' e)
    · exact .inr (k2 i hi b' e)
  have hv : OwnVs w B b (vmsOf gs bs) := by
    refine ⟨h.lt, hB, r.frozen, fun i hi => ?_, fun i hi => ?_⟩
    · rw [hl] at hi
      rw [vmsOf_at gs bs hi]
      exact (h.cell i hi).1
    · rw [hl] at hi
      rw [vmsOf_at gs bs hi]
      obtain ⟨o1, o2, o3, o4, o5, o6, o7⟩ := h.own i hi
      exact ⟨.inr ⟨_, rfl, by omega, o4, o6.frozen⟩, .inr ⟨_, rfl, by omega, o5, o7.frozen⟩⟩
  have hs : Sep b (vmsOf gs bs) := by
    refine ⟨fun i hi => ?_, fun i hi b' e e2 => ?_, fun i j hi hj hne b' e => ?_⟩
    · rw [hl] at hi
      rw [vmsOf_at gs bs hi]
      obtain ⟨o1, o2, _⟩ := h.own i hi
      exact ⟨fun e => by have := k1 i hi b e; omega, fun e => by have := k2 i hi b e; omega⟩
    · rw [hl] at hi
      rw [vmsOf_at gs bs hi] at e e2
      obtain ⟨o1, o2, o3, _⟩ := h.own i hi
      have := k1 i hi b' e
      have := k2 i hi b' e2
      omega
    · rw [hl] at hi hj
      rw [vmsOf_at gs bs hi] at e
      rw [vmsOf_at gs bs hj]
      have e' := kk i hi b' e
      rcases Nat.lt_or_gt_of_ne hne with lt | lt
      · have a := h.asc i j lt hj b' e'
        exact ⟨fun e2 => by have := k1 j hj b' e2; omega, fun e2 => by have := k2 j hj b' e2; omega⟩
      · exact ⟨fun e2 => by have a := h.asc j i lt hi b' (.inl (k1 j hj b' e2)); omega, fun e2 => by have a := h.asc j i lt hi b' (.inr (k2 j hj b' e2)); omega⟩
  have := OwnR.ofVs (cap := cap) hv hs
  rw [hl, ← hn] at this
  exact this

/-- Nothing has turned but what lies from block B on and below block T. -/
structure OutR (B T : Nat) (w w' : World) : Prop where
  size : w'.heap.size = w.heap.size
  os : w'.os = w.os
  tape : w'.tape = w.tape
  output : w'.output = w.output
  block : ∀ b, (b < B ∨ T ≤ b) → w'.heap[b]? = w.heap[b]?
theorem OutR.refl (B T : Nat) (w : World) : OutR B T w w := ⟨rfl, rfl, rfl, rfl, fun _ _ => rfl⟩
theorem OutR.below {B T : Nat} {w w' : World} (h : OutR B T w w') : Below B w w' := ⟨h.os, h.tape, h.output, Nat.le_of_eq h.size.symm, fun k hk => h.block k (.inl hk)⟩
theorem OwnR.out {w w' : World} {B T B' T' : Nat} {v : Value} {L : List VM} (h : OwnR w B T v L) (o : OutR B' T' w w') (hd : T ≤ B' ∨ T' ≤ B) : OwnR w' B T v L :=
  h.keepIn (Nat.le_of_eq o.size.symm) fun b h1 h2 => o.block b (by omega)
theorem HeldR.out {w w' : World} {B T B' T' : Nat} {v : Value} {k0 : Int} {L : List VM} (h : HeldR w B T v k0 L) (o : OutR B' T' w w') (hd : T ≤ B' ∨ T' ≤ B) : HeldR w' B T v k0 L :=
  h.keepIn (Nat.le_of_eq o.size.symm) fun b h1 h2 => o.block b (by omega)

theorem markR (B T : Nat) (v : Value) (L : List VM) (k0 : Int) (w : World) (h : OwnR w B T v L) (hn : L.length ≤ 2 ^ 30) (hk0 : 0 ≤ k0) (hk1 : k0 ≤ 2 ^ 30) (hs : stepsV L L.length ≤ 2 ^ 30) :
    Calls Try.prog 39 #[v, .int .i64 k0] w fun e w' => e = .returned (.int .i64 (k0 + (stepsV L L.length : Nat))) ∧ HeldR w' B T v k0 L ∧ OutR B T w w' := by
  obtain ⟨hT, a, cap, rfl, h2⟩ := h
  rcases h2 with h2 | ⟨g, rfl, h2⟩
  · subst h2
    refine (markVoteS0 a cap k0 w).mono ?_
    rintro e w' ⟨rfl, rfl⟩
    exact ⟨by simp [stepsV], ⟨hT, a, cap, rfl, .inl rfl⟩, OutR.refl _ _ _⟩
  · refine (markVoteS g cap B L k0 w h2.vs h2.sep hn hk0 hk1 hs).mono ?_
    rintro e w' ⟨rfl, h3, h4⟩
    refine ⟨rfl, ⟨by rw [h4.size]; exact hT, _, cap, rfl, .inr ⟨g, rfl, h3, h2.sep.mix k0 _, h2.hi, fun i hi b hb => ?_⟩⟩, h4.size, h4.os, h4.tape, h4.output, fun b hb => h4.block b ?_ fun i hi => ⟨fun e => ?_, fun e => ?_⟩⟩
    · rw [mixV_len] at hi
      have := mix_blk k0 L L.length hi
      rw [this.1, this.2] at hb
      exact h2.his i hi b hb
    · have := h2.vs.lo
      have := h2.hi
      omega
    · have := h2.his i hi b (.inl e)
      have := ((h2.vs.own i hi).1.blkLt b e).1
      omega
    · have := h2.his i hi b (.inr e)
      have := ((h2.vs.own i hi).2.blkLt b e).1
      omega
theorem heldR (B T : Nat) (v : Value) (L : List VM) (k0 : Int) (w : World) (h : HeldR w B T v k0 L) (hn : L.length ≤ 2 ^ 30) (hk0 : 0 ≤ k0) (hk1 : k0 ≤ 2 ^ 30) (hs : stepsV L L.length ≤ 2 ^ 30) :
    Calls Try.prog 40 #[v, .int .i64 k0] w fun e w' => e = .returned (.int .i64 (k0 + (stepsV L L.length : Nat))) ∧ w' = w := by
  obtain ⟨hT, a, cap, rfl, h2⟩ := h
  rcases h2 with h2 | ⟨g, rfl, h2⟩
  · subst h2
    refine (heldVoteS0 a cap k0 w).mono ?_
    rintro e w' ⟨rfl, rfl⟩
    exact ⟨by simp [stepsV], rfl⟩
  · exact heldVoteS g cap B L k0 w h2.vs hn hk0 hk1 hs
/-- Two lists of the same votes are told the same. -/
theorem eqR (B T B' T' : Nat) (v u : Value) (L M : List VM) (w : World) (h1 : OwnR w B T v L) (h2 : OwnR w B' T' u M) (hb : bodies L = bodies M) (hn : L.length ≤ 2 ^ 40) (hl : ∀ i, i < L.length → (L.getD i v0).b.xs.length ≤ 2 ^ 40 ∧ (L.getD i v0).b.ys.length ≤ 2 ^ 40) :
    Calls Try.prog 38 #[v, u] w fun e w' => e = .returned (.bool true) ∧ Below w.heap.size w w' := by
  obtain ⟨a, c, rfl, s1⟩ := h1.form
  obtain ⟨b, d, rfl, s2⟩ := h2.form
  exact eqVoteS a b c d L M w s1 s2 hb hn hl

/-- How many numbers the marks of votes take, by what they say alone. -/
def stepB (x : V) : Nat := 6 + 2 * x.2.xs.length + 2 * x.2.ys.length
theorem stepsV_le (L : List VM) (K : Nat) (h : ∀ i, i < L.length → stepV (L.getD i v0) ≤ K) : ∀ j, j ≤ L.length → stepsV L j ≤ j * K := by
  intro j
  induction j with
  | zero => intro _; simp [stepsV]
  | succ j ih =>
    intro hj
    have := ih (by omega)
    have := h j (by omega)
    simp only [stepsV, Nat.succ_mul]
    omega
/-- By the sum of what they have looked at and put. -/
theorem stepsV_sum (L : List VM) : ∀ j, stepsV L j = 6 * j + 2 * sumV L j := by
  intro j
  induction j with
  | zero => rfl
  | succ j ih => simp only [stepsV, sumV, stepV]; omega
theorem sumV_body {L M : List VM} (h : ∀ i, (L.getD i v0).body = (M.getD i v0).body) : ∀ j, sumV L j = sumV M j := by
  intro j
  induction j with
  | zero => rfl
  | succ j ih =>
    simp only [sumV]
    rw [ih, (body_eq (h j)).2]
theorem stepsV_body {L M : List VM} (h : bodies L = bodies M) : stepsV L L.length = stepsV M M.length := by
  obtain ⟨hl, hb⟩ := bodies_eq h
  rw [stepsV_sum, stepsV_sum, hl, sumV_body hb]
end Go.Proofs.Ytbbbfnfpmaogoaa.Own
