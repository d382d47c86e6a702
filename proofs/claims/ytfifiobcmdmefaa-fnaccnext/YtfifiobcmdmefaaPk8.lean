/-
  Own texts, bundled: OwnR, VoteOps, ToVoteR, BestR, ExecOkS2, ExecOkS3, ExecSameS, EntOkS, VoteS, VotesS.
-/
import Derived.Test.YtfifiobcmdmefaaPk7
import Derived.Test.YtfifiobcmdmefaaPk6
import Derived.Test.YtfifiobcmdmefaaPk2
import Derived.BigQuiet
import Derived.Lib.QuietBelow
import Derived.Deep.Cut
import Derived.Deep.CutRange
namespace Go.Proofs.Ytfifiobcmdmefaa.Own
open Go.RowKit
set_option linter.unusedVariables false
set_option linter.unusedSimpArgs false

structure InR (w : World) (B T g : Nat) (L : List VM) : Prop where
  vs : OwnVs w B g L
  sep : Sep g L
  hi : g < T
  his : ∀ i, i < L.length → ∀ b, (blk1 (L.getD i v0) = some b ∨ blk2 (L.getD i v0) = some b) → b < T

theorem OwnB.blkS {w w' : World} {B : Nat} {a : Option Addr} {xs : List P2} (h : OwnB w B a xs) (hs : w.heap.size ≤ w'.heap.size) (hb : ∀ b, blkOf a xs.length = some b → w'.heap[b]? = w.heap[b]?) : OwnB w' B a xs := by
  rcases h with h | ⟨g, rfl, hB, h, hf⟩
  · exact .inl h
  · by_cases h0 : xs = []
    · exact .inl h0
    · have hl : xs.length ≠ 0 := fun e => h0 (List.eq_nil_of_length_eq_zero e)
      have e := hb g (by simp [blkOf, hl])
      exact .inr ⟨g, rfl, hB, h.block hs e, fun o => by rw [World.frozen?_of_block (w := w) (a := ⟨g, o, none⟩) e]; exact hf o⟩

theorem InR.keepIn {w w' : World} {B T g : Nat} {L : List VM} (h : InR w B T g L) (hs : w.heap.size ≤ w'.heap.size) (hb : ∀ b, B ≤ b → b < T → w'.heap[b]? = w.heap[b]?) : InR w' B T g L := by
  have e := hb g h.vs.lo h.hi
  refine ⟨⟨Nat.lt_of_lt_of_le h.vs.lt hs, h.vs.lo, fun o => by rw [World.frozen?_of_block (w := w) (a := ⟨g, o, none⟩) e]; exact h.vs.fr o, fun i hi => (h.vs.cell i hi).congr fun l _ => World.cell?_of_block (w := w) (a := ⟨g, i * 8 + l, none⟩) e, fun i hi => ⟨(h.vs.own i hi).1.blkS hs fun b hb' => hb b ((h.vs.own i hi).1.blkLt b hb').1 (h.his i hi b (.inl hb')), (h.vs.own i hi).2.blkS hs fun b hb' => hb b ((h.vs.own i hi).2.blkLt b hb').1 (h.his i hi b (.inr hb'))⟩⟩, h.sep, h.hi, h.his⟩

/-- A list of votes of one's own, empty or not. -/
def OwnR (w : World) (B T : Nat) (v : Value) (L : List VM) : Prop := T ≤ w.heap.size ∧ ∃ a cap, v = .slice a L.length cap ∧ (L = [] ∨ ∃ g, a = some ⟨g, 0, none⟩ ∧ InR w B T g L)
/-- The same, marked. -/
def HeldR (w : World) (B T : Nat) (v : Value) (k0 : Int) (L : List VM) : Prop := T ≤ w.heap.size ∧ ∃ a cap, v = .slice a L.length cap ∧ (L = [] ∨ ∃ g, a = some ⟨g, 0, none⟩ ∧ InR w B T g (mixV k0 L L.length))
theorem OwnR.keepIn {w w' : World} {B T : Nat} {v : Value} {L : List VM} (h : OwnR w B T v L) (hs : w.heap.size ≤ w'.heap.size) (hb : ∀ b, B ≤ b → b < T → w'.heap[b]? = w.heap[b]?) : OwnR w' B T v L := by
  obtain ⟨h1, a, cap, rfl, h2⟩ := h
  refine ⟨Nat.le_trans h1 hs, a, cap, rfl, ?_⟩
  rcases h2 with h2 | ⟨g, rfl, h2⟩
  · exact .inl h2
  · exact .inr ⟨g, rfl, h2.keepIn hs hb⟩
theorem HeldR.keepIn {w w' : World} {B T : Nat} {v : Value} {k0 : Int} {L : List VM} (h : HeldR w B T v k0 L) (hs : w.heap.size ≤ w'.heap.size) (hb : ∀ b, B ≤ b → b < T → w'.heap[b]? = w.heap[b]?) : HeldR w' B T v k0 L := by
  obtain ⟨h1, a, cap, rfl, h2⟩ := h
  refine ⟨Nat.le_trans h1 hs, a, cap, rfl, ?_⟩
  rcases h2 with h2 | ⟨g, rfl, h2⟩
  · exact .inl h2
  · exact .inr ⟨g, rfl, h2.keepIn hs hb⟩
theorem OwnR.keep {w w' : World} {B T : Nat} {v : Value} {L : List VM} (h : OwnR w B T v L) (hb : Below w.heap.size w w') : OwnR w' B T v L :=
  h.keepIn hb.size fun b _ hT => hb.block b (Nat.lt_of_lt_of_le hT h.1)
theorem HeldR.keep {w w' : World} {B T : Nat} {v : Value} {k0 : Int} {L : List VM} (h : HeldR w B T v k0 L) (hb : Below w.heap.size w w') : HeldR w' B T v k0 L :=
  h.keepIn hb.size fun b _ hT => hb.block b (Nat.lt_of_lt_of_le hT h.1)
theorem OwnR.weaken {w : World} {B B' T : Nat} {v : Value} {L : List VM} (h : OwnR w B T v L) (hB : B' ≤ B) : OwnR w B' T v L := by
  obtain ⟨h1, a, cap, rfl, h2⟩ := h
  refine ⟨h1, a, cap, rfl, ?_⟩
  rcases h2 with h2 | ⟨g, rfl, h2⟩
  · exact .inl h2
  · exact .inr ⟨g, rfl, ⟨h2.vs.lt, Nat.le_trans hB h2.vs.lo, h2.vs.fr, h2.vs.cell, fun i hi => ⟨(h2.vs.own i hi).1.weaken hB, (h2.vs.own i hi).2.weaken hB⟩⟩, h2.sep, h2.hi, h2.his⟩
theorem OwnR.raise {w : World} {B T T' : Nat} {v : Value} {L : List VM} (h : OwnR w B T v L) (hT : T ≤ T') (hw : T' ≤ w.heap.size) : OwnR w B T' v L := by
  obtain ⟨h1, a, cap, rfl, h2⟩ := h
  refine ⟨hw, a, cap, rfl, ?_⟩
  rcases h2 with h2 | ⟨g, rfl, h2⟩
  · exact .inl h2
  · exact .inr ⟨g, rfl, h2.vs, h2.sep, Nat.lt_of_lt_of_le h2.hi hT, fun i hi b hb => Nat.lt_of_lt_of_le (h2.his i hi b hb) hT⟩
theorem OwnR.form {w : World} {B T : Nat} {v : Value} {L : List VM} (h : OwnR w B T v L) : ∃ a cap, v = .slice a L.length cap ∧ SlV w a L := by
  obtain ⟨_, a, cap, rfl, h2⟩ := h
  refine ⟨a, cap, rfl, ?_⟩
  rcases h2 with h2 | ⟨g, rfl, h2⟩
  · exact .inl h2
  · exact .inr ⟨g, 0, rfl, h2.vs.at⟩

theorem OwnR.nil (w : World) (B : Nat) (a : Option Addr) (c : Nat) : OwnR w B w.heap.size (.slice a 0 c) [] := ⟨Nat.le_refl _, a, c, rfl, .inl rfl⟩
/-- A list whose votes each lie in their own memory, in a row of one's own. -/
theorem OwnR.ofVs {w : World} {B g cap : Nat} {L : List VM} (h : OwnVs w B g L) (s : Sep g L) : OwnR w B w.heap.size (.slice (some ⟨g, 0, none⟩) L.length cap) L :=
  ⟨Nat.le_refl _, _, cap, rfl, .inr ⟨g, rfl, h, s, h.lt, fun i hi b hb => by
    rcases hb with hb | hb
    · exact ((h.own i hi).1.blkLt b hb).2
    · exact ((h.own i hi).2.blkLt b hb).2⟩⟩
theorem OwnR.ofL {w : World} {B : Nat} {v : Value} {L : List VM} (h : OwnL w B v L) : OwnR w B w.heap.size v L := by
  by_cases h0 : L = []
  · subst h0
    obtain ⟨a, cap, rfl⟩ := h.form
    exact OwnR.nil w B a cap
  · obtain ⟨g, cap, rfl, _, hv, hs⟩ := h.vs h0
    exact OwnR.ofVs hv hs
theorem OwnR.ofCopy {w : World} {B b n cap : Nat} {gs : List (Nat × Nat)} {bs : List V} (h : CopyV w b gs bs) (r : RowV w b n) (hB : B ≤ b) (hn : n = bs.length) : OwnR w B w.heap.size (.slice (some ⟨b, 0, none⟩) n cap) (vmsOf gs bs) := by
  have hl := vmsOf_len gs bs
  have k1 : ∀ i, i < bs.length → ∀ b', blk1 (vmOf (gs.getD i (0, 0)) (bs.getD i (0, e0))) = some b' → b' = (gs.getD i (0, 0)).1 := fun i hi b' e => by
    unfold blk1 blkOf vmOf at e
    split at e
    · cases e
    · simpa using e.symm
  have k2 : ∀ i, i < bs.length → ∀ b', blk2 (vmOf (gs.getD i (0, 0)) (bs.getD i (0, e0))) = some b' → b' = (gs.getD i (0, 0)).2 := fun i hi b' e => by
    unfold blk2 blkOf vmOf at e
    split at e
    · cases e
    · simpa using e.symm
  have kk : ∀ i, i < bs.length → ∀ b', (blk1 (vmOf (gs.getD i (0, 0)) (bs.getD i (0, e0))) = some b' ∨ blk2 (vmOf (gs.getD i (0, 0)) (bs.getD i (0, e0))) = some b') → b' = (gs.getD i (0, 0)).1 ∨ b' = (gs.getD i (0, 0)).2 := fun i hi b' e => by
    rcases e with e | e
    · exact .inl (k1 i hi b' e)
    · exact .inr (k2 i hi b' e)
  have hv : OwnVs w B b (vmsOf gs bs) := by
    refine ⟨h.lt, hB, r.frozen, fun i hi => ?_, fun i hi => ?_⟩
    · rw [hl] at hi
      rw [vmsOf_at gs bs hi]
      exact (h.cell i hi).1
    · rw [hl] at hi
      rw [vmsOf_at gs bs hi]
      obtain ⟨o1, o2, o3, o4, o5, o6, o7⟩ := h.own i hi
      exact ⟨.inr ⟨_, rfl, by omega, o4, o6.frozen⟩, .inr ⟨_, rfl, by omega, o5, o7.frozen⟩⟩
  have hs : Sep b (vmsOf gs bs) := by
    refine ⟨fun i hi => ?_, fun i hi b' e e2 => ?_, fun i j hi hj hne b' e => ?_⟩
    · rw [hl] at hi
      rw [vmsOf_at gs bs hi]
      obtain ⟨o1, o2, _⟩ := h.own i hi
      exact ⟨fun e => by have := k1 i hi b e; omega, fun e => by have := k2 i hi b e; omega⟩
    · rw [hl] at hi
      rw [vmsOf_at gs bs hi] at e e2
      obtain ⟨o1, o2, o3, _⟩ := h.own i hi
      have := k1 i hi b' e
      have := k2 i hi b' e2
      omega
    · rw [hl] at hi hj
      rw [vmsOf_at gs bs hi] at e
      rw [vmsOf_at gs bs hj]
      have e' := kk i hi b' e
      rcases Nat.lt_or_gt_of_ne hne with lt | lt
      · have a := h.asc i j lt hj b' e'
        exact ⟨fun e2 => by have := k1 j hj b' e2; omega, fun e2 => by have := k2 j hj b' e2; omega⟩
      · exact ⟨fun e2 => by have a := h.asc j i lt hi b' (.inl (k1 j hj b' e2)); omega, fun e2 => by have a := h.asc j i lt hi b' (.inr (k2 j hj b' e2)); omega⟩
  have := OwnR.ofVs (cap := cap) hv hs
  rw [hl, ← hn] at this
  exact this

/-- Nothing has turned but what lies from block B on and below block T. -/
structure OutR (B T : Nat) (w w' : World) : Prop where
  size : w'.heap.size = w.heap.size
  os : w'.os = w.os
  tape : w'.tape = w.tape
  output : w'.output = w.output
  block : ∀ b, (b < B ∨ T ≤ b) → w'.heap[b]? = w.heap[b]?
theorem OutR.refl (B T : Nat) (w : World) : OutR B T w w := ⟨rfl, rfl, rfl, rfl, fun _ _ => rfl⟩
theorem OutR.below {B T : Nat} {w w' : World} (h : OutR B T w w') : Below B w w' := ⟨h.os, h.tape, h.output, Nat.le_of_eq h.size.symm, fun k hk => h.block k (.inl hk)⟩
theorem OwnR.out {w w' : World} {B T B' T' : Nat} {v : Value} {L : List VM} (h : OwnR w B T v L) (o : OutR B' T' w w') (hd : T ≤ B' ∨ T' ≤ B) : OwnR w' B T v L :=
  h.keepIn (Nat.le_of_eq o.size.symm) fun b h1 h2 => o.block b (by omega)
theorem HeldR.out {w w' : World} {B T B' T' : Nat} {v : Value} {k0 : Int} {L : List VM} (h : HeldR w B T v k0 L) (o : OutR B' T' w w') (hd : T ≤ B' ∨ T' ≤ B) : HeldR w' B T v k0 L :=
  h.keepIn (Nat.le_of_eq o.size.symm) fun b h1 h2 => o.block b (by omega)

theorem markR (B T : Nat) (v : Value) (L : List VM) (k0 : Int) (w : World) (h : OwnR w B T v L) (hn : L.length ≤ 2 ^ 30) (hk0 : 0 ≤ k0) (hk1 : k0 ≤ 2 ^ 30) (hs : stepsV L L.length ≤ 2 ^ 30) :
    Calls Try.prog 112 #[v, .int .i64 k0] w fun e w' => e = .returned (.int .i64 (k0 + (stepsV L L.length : Nat))) ∧ HeldR w' B T v k0 L ∧ OutR B T w w' := by
  obtain ⟨hT, a, cap, rfl, h2⟩ := h
  rcases h2 with h2 | ⟨g, rfl, h2⟩
  · subst h2
    refine (markVoteS0 a cap k0 w).mono ?_
    rintro e w' ⟨rfl, rfl⟩
    exact ⟨by simp [stepsV], ⟨hT, a, cap, rfl, .inl rfl⟩, OutR.refl _ _ _⟩
  · refine (markVoteS g cap B L k0 w h2.vs h2.sep hn hk0 hk1 hs).mono ?_
    rintro e w' ⟨rfl, h3, h4⟩
    refine ⟨rfl, ⟨by rw [h4.size]; exact hT, _, cap, rfl, .inr ⟨g, rfl, h3, h2.sep.mix k0 _, h2.hi, fun i hi b hb => ?_⟩⟩, h4.size, h4.os, h4.tape, h4.output, fun b hb => h4.block b ?_ fun i hi => ⟨fun e => ?_, fun e => ?_⟩⟩
    · rw [mixV_len] at hi
      have := mix_blk k0 L L.length hi
      rw [this.1, this.2] at hb
      exact h2.his i hi b hb
    · have := h2.vs.lo
      have := h2.hi
      omega
    · have := h2.his i hi b (.inl e)
      have := ((h2.vs.own i hi).1.blkLt b e).1
      omega
    · have := h2.his i hi b (.inr e)
      have := ((h2.vs.own i hi).2.blkLt b e).1
      omega
theorem heldR (B T : Nat) (v : Value) (L : List VM) (k0 : Int) (w : World) (h : HeldR w B T v k0 L) (hn : L.length ≤ 2 ^ 30) (hk0 : 0 ≤ k0) (hk1 : k0 ≤ 2 ^ 30) (hs : stepsV L L.length ≤ 2 ^ 30) :
    Calls Try.prog 115 #[v, .int .i64 k0] w fun e w' => e = .returned (.int .i64 (k0 + (stepsV L L.length : Nat))) ∧ w' = w := by
  obtain ⟨hT, a, cap, rfl, h2⟩ := h
  rcases h2 with h2 | ⟨g, rfl, h2⟩
  · subst h2
    refine (heldVoteS0 a cap k0 w).mono ?_
    rintro e w' ⟨rfl, rfl⟩
    exact ⟨by simp [stepsV], rfl⟩
  · exact heldVoteS g cap B L k0 w h2.vs hn hk0 hk1 hs
/-- Two lists of the same votes are told the same. -/
theorem eqR (B T B' T' : Nat) (v u : Value) (L M : List VM) (w : World) (h1 : OwnR w B T v L) (h2 : OwnR w B' T' u M) (hb : bodies L = bodies M) (hn : L.length ≤ 2 ^ 40) (hl : ∀ i, i < L.length → (L.getD i v0).b.xs.length ≤ 2 ^ 40 ∧ (L.getD i v0).b.ys.length ≤ 2 ^ 40) :
    Calls Try.prog 140 #[v, u] w fun e w' => e = .returned (.bool true) ∧ Below w.heap.size w w' := by
  obtain ⟨a, c, rfl, s1⟩ := h1.form
  obtain ⟨b, d, rfl, s2⟩ := h2.form
  exact eqVoteS a b c d L M w s1 s2 hb hn hl

/-- How many numbers the marks of votes take, by what they say alone. -/
def stepB (x : V) : Nat := 6 + 2 * x.2.xs.length + 2 * x.2.ys.length
theorem stepsV_le (L : List VM) (K : Nat) (h : ∀ i, i < L.length → stepV (L.getD i v0) ≤ K) : ∀ j, j ≤ L.length → stepsV L j ≤ j * K := by
  intro j
  induction j with
  | zero => intro _; simp [stepsV]
  | succ j ih =>
    intro hj
    have := ih (by omega)
    have := h j (by omega)
    simp only [stepsV, Nat.succ_mul]
    omega
/-- By the sum of what they have looked at and put. -/
theorem stepsV_sum (L : List VM) : ∀ j, stepsV L j = 6 * j + 2 * sumV L j := by
  intro j
  induction j with
  | zero => rfl
  | succ j ih => simp only [stepsV, sumV, stepV]; omega
theorem sumV_body {L M : List VM} (h : ∀ i, (L.getD i v0).body = (M.getD i v0).body) : ∀ j, sumV L j = sumV M j := by
  intro j
  induction j with
  | zero => rfl
  | succ j ih =>
    simp only [sumV]
    rw [ih, (body_eq (h j)).2]
theorem stepsV_body {L M : List VM} (h : bodies L = bodies M) : stepsV L L.length = stepsV M M.length := by
  obtain ⟨hl, hb⟩ := bodies_eq h
  rw [stepsV_sum, stepsV_sum, hl, sumV_body hb]
end Go.Proofs.Ytfifiobcmdmefaa.Own

namespace Go.Proofs.Ytfifiobcmdmefaa.Own
open Go.RowKit Go.Sort
set_option linter.unusedVariables false
set_option linter.unusedSimpArgs false

theorem infoVote : (Try.prog.info? 42).map (fun i => (i.zero, i.size, i.bytes)) = some (some (.agg #[.int .i64 0, .bool false, .int .i64 0, .int .i64 0, .slice none 0 0, .slice none 0 0, .int .i64 0, .int .i64 0]), 8, 96) := by kernel_rfl

set_option maxHeartbeats 400000 in
theorem szVote (m : Int) (n : Bool) (p q : Int) (a1 a2 : Option Addr) (n1 c1 n2 c2 : Nat) (v k left : Int) (w : World) (h1 : n1 ≤ maxLen) (h2 : n2 ≤ maxLen) (h0 : 0 ≤ left) (hm : left ≤ 2 ^ 60) :
    Calls Try.prog 166 #[.agg #[.int .i64 m, .bool n, .int .i64 p, .int .i64 q, .slice a1 n1 c1, .slice a2 n2 c2, .int .i64 v, .int .i64 k], .int .i64 left] w fun e w' => e = .returned (.int .i64 (if left - n1 - n2 < 0 then -1 else left - n1 - n2)) ∧ Below w.heap.size w w' := by
  obtain ⟨W, hW⟩ : ∃ W, W = w.alloc (.cells #[.int .i64 m, .bool n, .int .i64 p, .int .i64 q, .slice a1 n1 c1, .slice a2 n2 c2, .int .i64 v, .int .i64 k] 225) := ⟨_, rfl⟩
  have BW : Hid (Below w.heap.size w W) := by show Below _ _ _; rw [hW]; exact (Below.refl _ _).alloc (Nat.le_refl _) _
  have HW : Hid (W = _) := hW
  clear hW
  by_cases hl : left - n1 - n2 < 0
  · go_enter Try.func166, Try.ntmps166
    go_wp2_with fail
    rw [← HW.out]
    refine (szEntry n p q a1 a2 n1 c1 n2 c2 v k left W h1 h2 h0 hm).mono ?_
    rintro e w1 ⟨rfl, b1⟩
    rw [if_pos (by omega)]
    have B1 : Hid (Below w.heap.size w w1) := BW.out.trans (b1.mono BW.out.size)
    clear b1
    go_wp2_with fail
    go_ret
    exact ⟨rfl, B1.out⟩
  · go_enter Try.func166, Try.ntmps166
    go_wp2_with fail
    rw [← HW.out]
    refine (szEntry n p q a1 a2 n1 c1 n2 c2 v k left W h1 h2 h0 hm).mono ?_
    rintro e w1 ⟨rfl, b1⟩
    rw [if_neg (by omega)]
    have B1 : Hid (Below w.heap.size w w1) := BW.out.trans (b1.mono BW.out.size)
    clear b1
    go_wp2_with fail
    go_ret
    exact ⟨rfl, B1.out⟩

set_option maxHeartbeats 1000000 in
theorem szVoteS (a : Option Addr) (c : Nat) (vs : List VM) (left : Int) (w : World) (h : SlV w a vs) (hl : vs.length ≤ maxLen) (hm : ∀ i, i < vs.length → (vs.getD i v0).b.xs.length ≤ maxLen ∧ (vs.getD i v0).b.ys.length ≤ maxLen) (h0 : 0 ≤ left) (h1 : left ≤ 2 ^ 60) :
    Calls Try.prog 145 #[.slice a vs.length c, .int .i64 left] w fun e w' => e = .returned (.int .i64 (if left < (vs.length + sumV vs vs.length : Nat) then -1 else left - (vs.length + sumV vs vs.length : Nat))) ∧ Below w.heap.size w w' := by
  have HS : Hid (SlV w a vs) := h
  have HM : Hid (∀ i, i < vs.length → (vs.getD i v0).b.xs.length ≤ maxLen ∧ (vs.getD i v0).b.ys.length ≤ maxLen) := hm
  clear h hm
  unfold maxLen at hl
  obtain ⟨T, hT⟩ : ∃ T, T = vs.length + sumV vs vs.length := ⟨_, rfl⟩
  rw [← hT]
  have HT : Hid (T = vs.length + sumV vs vs.length) := hT
  obtain ⟨r, hr⟩ : ∃ r : Int, r = if left < (T : Nat) then -1 else left - (T : Nat) := ⟨_, rfl⟩
  rw [← hr]
  have HR1 : Hid (left < (T : Nat) → r = -1) := fun h => by rw [hr, if_pos h]
  have HR2 : Hid (¬ left < (T : Nat) → r = left - (T : Nat)) := fun h => by rw [hr, if_neg h]
  clear hT hr
  by_cases hb : left - (vs.length : Int) < 0
  · have hlt : Hid (left < (T : Nat)) := by have := HT.out; show _ < _; omega
    go_enter Try.func145, Try.ntmps145
    go_wp2_with fail
    go_ret
    exact ⟨ret_int (HR1.out hlt.out).symm, Below.refl _ _⟩
  · go_enter Try.func145, Try.ntmps145
    go_wp2_with fail
    go_loopw [1, 5] (fun q i wr => ∃ k : Nat, k ≤ vs.length ∧ i = .int .i64 k ∧ ((vs.length + sumV vs k : Nat) : Int) ≤ left ∧ q = .int .i64 (left - vs.length - (sumV vs k : Nat)) ∧ Hid (Below w.heap.size w wr)) (fun _ i _ => vs.length - (intOf i).toNat)
    case atStart => exact ⟨0, Nat.zero_le _, rfl, by simp [sumV]; omega, by simp [sumV], Below.refl _ _⟩
    case round =>
      obtain ⟨k, hk, rfl, hle, rfl, KB⟩ := hrel
      by_cases hlt : k < vs.length
      · have hki : (k : Int) < (vs.length : Int) := by omega
        rcases HS.out.below KB.out with hh | ⟨b, off, rfl, _, hh⟩
        · rw [hh] at hlt; simp at hlt
        obtain ⟨⟨d0, d1, d2, d3, d4, d5, d6, d7⟩, _⟩ := hh k hlt
        obtain ⟨mx1, mx2⟩ := HM.out k hlt
        have NX : Hid (sumV vs (k + 1) = sumV vs k + ((vs.getD k v0).b.xs.length + (vs.getD k v0).b.ys.length)) := rfl
        have TM : Hid (vs.length + sumV vs (k + 1) ≤ T) := by have := sumV_mono vs (show k + 1 ≤ vs.length by omega); have := HT.out; show _ ≤ _; omega
        clear hh
        generalize vs.getD k v0 = x at d0 d1 d2 d3 d4 d5 d6 d7 mx1 mx2 NX
        obtain ⟨xbal, ⟨xn, xp, xq, xxs, xys, xv, xk⟩, xa1, xc1, xa2, xc2⟩ := x
        simp only at d0 d1 d2 d3 d4 d5 d6 d7 mx1 mx2 NX
        obtain ⟨z, hz, z0⟩ : ∃ z : Int, z = left - vs.length - (sumV vs k : Nat) ∧ 0 ≤ z := ⟨_, rfl, by omega⟩
        rw [← hz]
        have HZ : Hid (z = left - vs.length - (sumV vs k : Nat)) := hz
        have z1 : z ≤ 2 ^ 60 := by omega
        clear hz
        go_wp2_with fail
        refine (szVote xbal xn xp xq xa1 xa2 xxs.length xc1 xys.length xc2 xv xk z _ mx1 mx2 z0 z1).mono ?_
        rintro e w1 ⟨rfl, hw⟩
        have B1 : Hid (Below w.heap.size w w1) := KB.out.trans (hw.mono KB.out.size)
        clear hw
        by_cases hc : z - (xxs.length : Int) - (xys.length : Int) < 0
        · rw [if_pos hc]
          have LT : Hid (left < (T : Nat)) := by have := TM.out; have := NX.out; have := HZ.out; show _ < _; omega
          go_wp2_with fail
          go_ret
          exact ⟨ret_int (HR1.out LT.out).symm, B1.out⟩
        · rw [if_neg hc]
          go_wp2_with fail
          go_roundw
          case rel => exact ⟨k + 1, by omega, by go_num, by have := NX.out; have := HZ.out; omega, by have := NX.out; have := HZ.out; congr 1; omega, B1.out⟩
          case measure => simp [intOf]; omega
      · have hki : ¬ (k : Int) < (vs.length : Int) := by omega
        obtain rfl : k = vs.length := by omega
        go_wp2_with fail
        go_ret
        have ht := HT.out
        have h2 := HR2.out (by omega)
        exact ⟨ret_int (by omega), KB.out⟩

set_option maxRecDepth 100000 in
set_option maxHeartbeats 1000000 in
theorem toVote (m : Int) (n : Bool) (p q : Int) (a1 a2 : Option Addr) (c1 c2 : Nat) (xs ys : List P2) (v k : Int) (w : World) (h1 : Sl w a1 xs) (h2 : Sl w a2 ys) (hn1 : xs.length ≤ 2 ^ 40) (hn2 : ys.length ≤ 2 ^ 40) :
    Calls Try.prog 168 #[.agg #[.int .i64 m, .bool n, .int .i64 p, .int .i64 q, .slice a1 xs.length c1, .slice a2 ys.length c2, .int .i64 v, .int .i64 k]] w fun e w' => ∃ g1 g2, e = .returned (.agg #[.int .i64 m, .bool n, .int .i64 p, .int .i64 q, .slice (some ⟨g1, 0, none⟩) xs.length xs.length, .slice (some ⟨g2, 0, none⟩) ys.length ys.length, .int .i64 v, .int .i64 k]) ∧ RunOwn w' w.heap.size g1 g2 xs ys ∧ Below w.heap.size w w' := by
  have H1 : Hid (Sl w a1 xs) := h1
  have H2 : Hid (Sl w a2 ys) := h2
  clear h1 h2
  obtain ⟨W, hW⟩ : ∃ W, W = ((w.alloc (.cells #[.int .i64 m, .bool n, .int .i64 p, .int .i64 q, .slice a1 xs.length c1, .slice a2 ys.length c2, .int .i64 v, .int .i64 k] 225)).alloc (.cells #[.int .i64 0, .bool false, .int .i64 0, .int .i64 0, .slice none 0 0, .slice none 0 0, .int .i64 0, .int .i64 0] 42)).alloc (.cells #[.int .i64 m, .bool false, .int .i64 0, .int .i64 0, .slice none 0 0, .slice none 0 0, .int .i64 0, .int .i64 0] 42) := ⟨_, rfl⟩
  have BW : Hid (Below w.heap.size w W) := by
    show Below _ _ _
    rw [hW]; exact ((((Below.refl _ _).alloc (Nat.le_refl _) _).alloc (by simp) _).alloc (by simp; omega) _)
  have SW : Hid (W.heap.size = w.heap.size + 3) := by show _ = _; rw [hW]; simp
  have G1 : Hid (Blk W (w.heap.size + 1) #[.int .i64 0, .bool false, .int .i64 0, .int .i64 0, .slice none 0 0, .slice none 0 0, .int .i64 0, .int .i64 0] 42) := by
    show Blk _ _ _ _; rw [hW]; exact (Blk.new2 _ _ _ _).alloc _
  have G2 : Hid (Blk W (w.heap.size + 1 + 1) #[.int .i64 m, .bool false, .int .i64 0, .int .i64 0, .slice none 0 0, .slice none 0 0, .int .i64 0, .int .i64 0] 42) := by
    show Blk _ _ _ _; rw [hW]; exact Blk.new3 _ _ _ _ _
  have HW : Hid (W = _) := hW
  clear hW
  go_enter Try.func168, Try.ntmps168
  go_wp2_with fail
  rw [← HW.out]
  refine (toEntry n p q a1 a2 c1 c2 xs ys v k W (H1.out.below BW.out) (H2.out.below BW.out) hn1 hn2).mono ?_
  rintro e w3 ⟨g1, g2, rfl, own, b3⟩
  have F1 : Hid (Blk w3 (w.heap.size + 1) _ _) := G1.out.keep b3
  have F2 : Hid (Blk w3 (w.heap.size + 1 + 1) _ _) := G2.out.keep b3
  have B3 : Hid (Below w.heap.size w w3) := BW.out.trans (b3.mono BW.out.size)
  have O3 : Hid (RunOwn w3 w.heap.size g1 g2 xs ys) := ⟨Nat.le_trans BW.out.size own.1, Nat.le_trans BW.out.size own.2.1, own.2.2⟩
  have N3 : Hid (w.heap.size + 3 ≤ g1 ∧ w.heap.size + 3 ≤ g2) := ⟨by have := SW.out; have := own.1; omega, by have := SW.out; have := own.2.1; omega⟩
  clear b3 own
  obtain ⟨i0, i1, i2, i3, i4, i5, i6, i7⟩ := F1.out.cells8
  obtain ⟨o0, o1, o2, o3, o4, o5, o6, o7⟩ := F2.out.cells8
  have fo := F2.out.frozen
  have fi := F1.out.frozen
  go_wp2
  refine bodyPost_ret (v := .agg #[.int .i64 m, .bool n, .int .i64 p, .int .i64 q, .slice (some ⟨g1, 0, none⟩) xs.length xs.length, .slice (some ⟨g2, 0, none⟩) ys.length ys.length, .int .i64 v, .int .i64 k]) (by simp [results, Try.results168, go_sem, i0, i1, i2, i3, i4, i5, i6, i7]) rfl ⟨g1, g2, rfl, ?_, ?_⟩
  · have S2 : ∀ {u : World} (o : Nat) (x : Value), KeepFrom (w.heap.size + 3) w3 u → KeepFrom (w.heap.size + 3) w3 (u.setCell ⟨w.heap.size + 1 + 1, o, none⟩ x) := fun o x h => h.setCell (by show w.heap.size + 1 + 1 < _; omega) x
    have S1 : ∀ {u : World} (o : Nat) (x : Value), KeepFrom (w.heap.size + 3) w3 u → KeepFrom (w.heap.size + 3) w3 (u.setCell ⟨w.heap.size + 1, o, none⟩ x) := fun o x h => h.setCell (by show w.heap.size + 1 < _; omega) x
    exact O3.out.keep (S1 _ _ (S1 _ _ (S1 _ _ (S1 _ _ (S1 _ _ (S1 _ _ (S1 _ _ (S1 _ _ (S2 _ _ (S2 _ _ (S2 _ _ (S2 _ _ (S2 _ _ (S2 _ _ (S2 _ _ (KeepFrom.refl _ _)))))))))))))))) N3.out.1 N3.out.2
  · have s2 : w.heap.size ≤ w.heap.size + 1 + 1 := by omega
    have s1 : w.heap.size ≤ w.heap.size + 1 := by omega
    exact ((((((((((((((B3.out.setCell s2 _).setCell s2 _).setCell s2 _).setCell s2 _).setCell s2 _).setCell s2 _).setCell s2 _).setCell s1 _).setCell s1 _).setCell s1 _).setCell s1 _).setCell s1 _).setCell s1 _).setCell s1 _).setCell s1 _

theorem RowV.made (w : World) (n : Nat) : RowV (w.alloc (.cells (madeCells (Value.agg #[.int .i64 0, .bool false, .int .i64 0, .int .i64 0, .slice none 0 0, .slice none 0 0, .int .i64 0, .int .i64 0]).cells (n * 8)) 42)) w.heap.size n := by
  refine ⟨_, _, heap_new _ _, size_madeCells _ _, ?_⟩
  intro v hv
  obtain ⟨k, hk, rfl⟩ := Array.getElem_of_mem hv
  rw [size_madeCells] at hk
  obtain ⟨v, h1, h2⟩ := made_cell (z := (Value.agg #[.int .i64 0, .bool false, .int .i64 0, .int .i64 0, .slice none 0 0, .slice none 0 0, .int .i64 0, .int .i64 0]).cells) (n := n * 8) (k := k) (by decide) hk (by simp [Value.cells, Value.oneCell'])
  rw [Array.getElem?_eq_getElem (by simpa [size_madeCells] using hk)] at h1
  injection h1 with h1
  rw [h1]; exact h2

set_option maxRecDepth 100000 in
set_option maxHeartbeats 2000000 in
theorem toVoteS (a : Option Addr) (c : Nat) (vs : List VM) (w : World) (h : SlV w a vs) (hn : vs.length ≤ 2 ^ 40) (hl : ∀ i, i < vs.length → (vs.getD i v0).b.xs.length ≤ 2 ^ 40 ∧ (vs.getD i v0).b.ys.length ≤ 2 ^ 40) :
    Calls Try.prog 151 #[.slice a vs.length c] w fun e w' => e = .returned (.slice (some ⟨w.heap.size, 0, none⟩) vs.length vs.length) ∧ (∃ gs, CopyV w' w.heap.size gs (bodies vs)) ∧ RowV w' w.heap.size vs.length ∧ Below w.heap.size w w' := by
  have HS : Hid (SlV w a vs) := h
  have HL : Hid (∀ i, i < vs.length → (vs.getD i v0).b.xs.length ≤ 2 ^ 40 ∧ (vs.getD i v0).b.ys.length ≤ 2 ^ 40) := hl
  clear h hl
  have hmk := make_row (P := Try.prog) Try.underlying23 infoVote vs.length (by omega) (by omega)
  go_enter Try.func151, Try.ntmps151
  go_wp2
  clear hmk
  go_loopw [4] (fun i wr => ∃ (k : Nat) (gs : List (Nat × Nat)), k ≤ vs.length ∧ i = .int .i64 k ∧ Hid (CopyV wr w.heap.size gs ((bodies vs).take k) ∧ RowV wr w.heap.size vs.length ∧ Below w.heap.size w wr)) (fun i _ => vs.length - (intOf i).toNat)
  case atStart => exact ⟨0, [], Nat.zero_le _, rfl, by rw [List.take_zero]; exact CopyV.nil (RowV.made w vs.length).lt, RowV.made w _, (Below.refl _ _).alloc (Nat.le_refl _) _⟩
  case round =>
    obtain ⟨k, gs, hk, rfl, IV⟩ := hrel
    have PL := bodies_len vs
    by_cases hlt : k < vs.length
    · have hki : (k : Int) < (vs.length : Int) := by omega
      rcases HS.out.below IV.out.2.2 with hh | ⟨b, off, rfl, _, hh⟩
      · rw [hh] at hlt; simp at hlt
      obtain ⟨⟨d0, d1, d2, d3, d4, d5, d6, d7⟩, s1, s2⟩ := hh k hlt
      obtain ⟨lx1, lx2⟩ := HL.out k hlt
      have NX : Hid ((bodies vs).take (k + 1) = (bodies vs).take k ++ [(vs.getD k v0).body]) := by
        show _ = _
        rw [List.take_succ_eq_append_getElem (by omega), ← bodies_getD]
        simp [List.getD, PL, hlt]
      have LK : Hid (((bodies vs).take k).length = k) := by show _ = _; simp [PL]; omega
      have SX : Hid (Sl wr (vs.getD k v0).a1 (vs.getD k v0).b.xs ∧ Sl wr (vs.getD k v0).a2 (vs.getD k v0).b.ys) := ⟨s1, s2⟩
      clear hh s1 s2 PL
      generalize vs.getD k v0 = x at d0 d1 d2 d3 d4 d5 d6 d7 lx1 lx2 NX SX
      obtain ⟨xbal, ⟨xn, xp, xq, xxs, xys, xv, xk⟩, xa1, xc1, xa2, xc2⟩ := x
      simp only [VM.body] at d0 d1 d2 d3 d4 d5 d6 d7 lx1 lx2 NX SX
      go_wp2_with fail
      refine (toVote xbal xn xp xq xa1 xa2 xc1 xc2 xxs xys xv xk wr SX.out.1 SX.out.2 lx1 lx2).mono ?_
      rintro e w1 ⟨g1, g2, rfl, ho, hb⟩
      have RP : Hid (RowV w1 w.heap.size vs.length) := IV.out.2.1.below hb IV.out.2.1.lt
      have CN : Hid (CopyV (set8 w1 w.heap.size (k * 8) (vmOf (g1, g2) (xbal, ⟨xn, xp, xq, xxs, xys, xv, xk⟩))) w.heap.size (gs ++ [(g1, g2)]) ((bodies vs).take (k + 1))) := by
        have h := IV.out.1.snoc (x := (xbal, ⟨xn, xp, xq, xxs, xys, xv, xk⟩)) hb ho RP.out (by rw [LK.out]; exact hlt)
        rw [LK.out, ← NX.out] at h
        exact h
      have B1 : Hid (Below w.heap.size w w1) := IV.out.2.2.trans (hb.mono IV.out.2.2.size)
      have FF := fun o => RP.out.frozen o
      obtain ⟨u0, t0, _⟩ := RP.out.cell (k * 8) (by omega)
      obtain ⟨u1, t1, _⟩ := RP.out.cell (k * 8 + 1) (by omega)
      obtain ⟨u2, t2, _⟩ := RP.out.cell (k * 8 + 2) (by omega)
      obtain ⟨u3, t3, _⟩ := RP.out.cell (k * 8 + 3) (by omega)
      obtain ⟨u4, t4, _⟩ := RP.out.cell (k * 8 + 4) (by omega)
      obtain ⟨u5, t5, _⟩ := RP.out.cell (k * 8 + 5) (by omega)
      obtain ⟨u6, t6, _⟩ := RP.out.cell (k * 8 + 6) (by omega)
      obtain ⟨u7, t7, _⟩ := RP.out.cell (k * 8 + 7) (by omega)
      clear ho hb d0 d1 d2 d3 d4 d5 d6 d7
      go_wp2
      go_roundw
      case rel => exact ⟨k + 1, gs ++ [(g1, g2)], by omega, by go_num, CN.out, set8_row RP.out _ (vmOf (g1, g2) (xbal, ⟨xn, xp, xq, xxs, xys, xv, xk⟩)), set8_below B1.out (Nat.le_refl _) _ (vmOf (g1, g2) (xbal, ⟨xn, xp, xq, xxs, xys, xv, xk⟩))⟩
      case measure => simp [intOf]; omega
    · have hki : ¬ (k : Int) < (vs.length : Int) := by omega
      obtain rfl : k = vs.length := by omega
      go_wp2_with fail
      go_ret
      have := IV.out
      rw [List.take_of_length_le (by omega)] at this
      exact ⟨rfl, ⟨gs, this.1⟩, this.2.1, this.2.2⟩
end Go.Proofs.Ytfifiobcmdmefaa.Own

namespace Go.Proofs.Ytfifiobcmdmefaa.Own
open Go.RowKit
set_option linter.unusedVariables false
set_option linter.unusedSimpArgs false

/-- Votes of which each has at most n boxes in its lists. -/
def Short (n : Nat) (bs : List V) : Prop := ∀ i, i < bs.length → (bs.getD i (0, e0)).2.xs.length ≤ n ∧ (bs.getD i (0, e0)).2.ys.length ≤ n
theorem Short.of {n : Nat} {vs : List VM} (h : vs.length + sumV vs vs.length ≤ n) : Short n (bodies vs) := fun i hi => by
  rw [bodies_len] at hi
  rw [bodies_getD]
  have := sumV_at vs hi
  show (vs.getD i v0).b.xs.length ≤ n ∧ (vs.getD i v0).b.ys.length ≤ n
  omega
theorem Short.vm {n : Nat} {L : List VM} (h : Short n (bodies L)) : ∀ i, i < L.length → (L.getD i v0).b.xs.length ≤ n ∧ (L.getD i v0).b.ys.length ≤ n := fun i hi => by
  have := h i (by rw [bodies_len]; exact hi)
  rw [bodies_getD] at this
  exact this
theorem Short.mono {n m : Nat} {bs : List V} (h : Short n bs) (hm : n ≤ m) : Short m bs := fun i hi => ⟨Nat.le_trans (h i hi).1 hm, Nat.le_trans (h i hi).2 hm⟩

theorem toR (a : Option Addr) (c : Nat) (vs : List VM) (w : World) (h : SlV w a vs) (hn : vs.length ≤ 2 ^ 30) (hl : Short (2 ^ 30) (bodies vs)) :
    Calls Try.prog 151 #[.slice a vs.length c] w fun e w' => ∃ v L, e = .returned v ∧ OwnR w' w.heap.size w'.heap.size v L ∧ bodies L = bodies vs ∧ VLs L ∧ Below w.heap.size w w' := by
  refine (toVoteS a c vs w h (by omega) (fun i hi => by have := hl.vm i hi; omega)).mono ?_
  rintro e w' ⟨rfl, ⟨gs, hc⟩, hr, hb⟩
  refine ⟨_, vmsOf gs (bodies vs), rfl, OwnR.ofCopy hc hr (Nat.le_refl _) (by rw [bodies_len]), vmsOf_bodies _ _, CopyV.vls (fun i hi => by have := hl i hi; omega), hb⟩
end Go.Proofs.Ytfifiobcmdmefaa.Own

namespace Go.Proofs.Ytfifiobcmdmefaa.Own
open Go.RowKit
set_option linter.unusedVariables false
set_option linter.unusedSimpArgs false

/-- What AccBest answers. -/
def bestOf (A B : List V) : List V := if votesUpto 3000 A && votesUpto 3000 B then (List.range (max A.length B.length)).map (bestAt A B) else []
theorem ext_bodies {L : List VM} {C : List V} (hl : L.length = C.length) (h : ∀ i, i < C.length → (L.getD i v0).body = C.getD i (0, e0)) : bodies L = C := by
  apply List.ext_getElem
  · rw [bodies_len, hl]
  · intro i h1 h2
    have := h i h2
    rw [← bodies_getD] at this
    simpa [List.getD, h1, h2] using this
theorem bestOf_at {A B : List V} (h : (votesUpto 3000 A && votesUpto 3000 B) = true) : bestOf A B = (List.range (max A.length B.length)).map (bestAt A B) := by
  unfold bestOf; rw [if_pos h]
theorem BestTo.bodies {A B : List V} {L : List VM} (h : BestTo A B B.length L) (hk : (votesUpto 3000 A && votesUpto 3000 B) = true) : bodies L = bestOf A B := by
  rw [bestOf_at hk]
  refine ext_bodies (by rw [h.1]; simp) fun i hi => ?_
  have hi' : i < max A.length B.length := by simpa using hi
  rw [h.2 i]
  have e : ((List.range (max A.length B.length)).map (bestAt A B)).getD i (0, e0) = bestAt A B i := by
    simp only [List.getD, List.getElem?_map, List.getElem?_range hi']
    rfl
  rw [e]
  by_cases hb : i < B.length
  · rw [if_pos hb]
  · rw [if_neg hb]
    unfold bestAt
    rw [if_neg (fun h => hb h.1)]
theorem bestAt_of (A B : List V) (i : Nat) : bestAt A B i = A.getD i (0, e0) ∨ bestAt A B i = B.getD i (0, e0) := by
  unfold bestAt
  split
  · exact .inr rfl
  · exact .inl rfl
theorem Short.getD {n : Nat} {A : List V} (h : Short n A) (i : Nat) : (A.getD i (0, e0)).2.xs.length ≤ n ∧ (A.getD i (0, e0)).2.ys.length ≤ n := by
  by_cases hi : i < A.length
  · exact h i hi
  · have : A.getD i (0, e0) = (0, e0) := by simp [List.getD, List.getElem?_eq_none (Nat.le_of_not_lt hi)]
    rw [this]
    exact ⟨Nat.zero_le _, Nat.zero_le _⟩
theorem bestOf_short {n : Nat} {A B : List V} (ha : Short n A) (hb : Short n B) : Short n (bestOf A B) := by
  intro i hi
  unfold bestOf at hi ⊢
  split at hi
  · rename_i hk
    rw [if_pos hk]
    have hi' : i < max A.length B.length := by simpa using hi
    have e : ((List.range (max A.length B.length)).map (bestAt A B)).getD i (0, e0) = bestAt A B i := by
      simp only [List.getD, List.getElem?_map, List.getElem?_range hi']
      rfl
    rw [e]
    rcases bestAt_of A B i with e | e
    · rw [e]; exact ha.getD i
    · rw [e]; exact hb.getD i
  · simp at hi
theorem votesUpto_len {m : Int} {A : List V} (h : votesUpto m A = true) : A.length ≤ 40 := by
  unfold votesUpto at h
  simp only [Bool.and_eq_true, decide_eq_true_eq] at h
  exact h.1
theorem bestOf_len (A B : List V) : (bestOf A B).length ≤ 40 := by
  unfold bestOf
  split
  · rename_i hk
    simp only [Bool.and_eq_true] at hk
    have := votesUpto_len hk.1
    have := votesUpto_len hk.2
    simp; omega
  · simp
theorem best_steps {L : List VM} {A B : List V} (h : bodies L = bestOf A B) (ha : Short (2 ^ 21) A) (hb : Short (2 ^ 21) B) : L.length ≤ 40 ∧ stepsV L L.length ≤ 2 ^ 30 := by
  have hl : L.length ≤ 40 := by rw [← bodies_len, h]; exact bestOf_len A B
  have hs : Short (2 ^ 21) (bodies L) := by rw [h]; exact bestOf_short ha hb
  refine ⟨hl, ?_⟩
  have := stepsV_le L (6 + 2 ^ 23) (fun i hi => by have := hs.vm i hi; unfold stepV; omega) L.length (Nat.le_refl _)
  have : L.length * (6 + 2 ^ 23) ≤ 40 * (6 + 2 ^ 23) := Nat.mul_le_mul_right _ hl
  omega

theorem bestC (B T B' T' : Nat) (v u : Value) (L M : List VM) (w : World) (h1 : OwnR w B T v L) (h2 : OwnR w B' T' u M) (l1 : VLs L) (l2 : VLs M) (n1 : L.length ≤ 2 ^ 30) (n2 : M.length ≤ 2 ^ 30) :
    Calls Try.prog 24 #[v, u] w fun e w' => ∃ x N, e = .returned x ∧ OwnR w' w.heap.size w'.heap.size x N ∧ bodies N = bestOf (bodies L) (bodies M) ∧ CapL N ∧ Below w.heap.size w w' := by
  obtain ⟨a, c, rfl, s1⟩ := h1.form
  obtain ⟨b, d, rfl, s2⟩ := h2.form
  refine (implAccBest a b c d L M w s1 s2 l1 l2 n1 n2).mono ?_
  rintro e w' ⟨x, rfl, hx⟩
  by_cases hk : (votesUpto 3000 (bodies L) && votesUpto 3000 (bodies M)) = true
  · rw [if_pos hk] at hx
    obtain ⟨a', n, cap, N, rfl, hn, ht, ho, hb, hcap⟩ := hx
    refine ⟨_, N, rfl, ?_, ht.bodies hk, hcap, hb⟩
    subst hn
    by_cases h0 : 0 < N.length
    · obtain ⟨g, rfl, hv, hs⟩ := ho h0
      exact OwnR.ofVs hv hs
    · obtain rfl : N = [] := List.eq_nil_of_length_eq_zero (by omega)
      exact OwnR.nil _ _ _ _
  · rw [if_neg hk] at hx
    obtain ⟨rfl, hb⟩ := hx
    refine ⟨_, [], rfl, OwnR.nil _ _ _ _, ?_, fun i h => by simp at h, hb⟩
    unfold bestOf
    rw [if_neg hk]
    rfl
theorem bestI (B T B' T' : Nat) (v u : Value) (L M : List VM) (w : World) (h1 : OwnR w B T v L) (h2 : OwnR w B' T' u M) (l1 : VLs L) (l2 : VLs M) (n1 : L.length ≤ 2 ^ 30) (n2 : M.length ≤ 2 ^ 30) :
    Calls Try.prog 24 #[v, u] w fun e w' => ∃ x N, e = .returned x ∧ OwnR w' w.heap.size w'.heap.size x N ∧ bodies N = bestOf (bodies L) (bodies M) ∧ Below w.heap.size w w' :=
  (bestC B T B' T' v u L M w h1 h2 l1 l2 n1 n2).mono fun e w' ⟨x, N, h1, h2, h3, _, h4⟩ => ⟨x, N, h1, h2, h3, h4⟩
end Go.Proofs.Ytfifiobcmdmefaa.Own

namespace Go.Proofs.Ytfifiobcmdmefaa.Own
open Go.RowKit
set_option linter.unusedVariables false
set_option linter.unusedSimpArgs false

theorem BoxAt.pre {w : World} {b off : Nat} {xs : List P2} (h : BoxAt w b off xs) (n : Nat) (hn : n ≤ xs.length) : BoxAt w b off (xs.take n) := by
  refine ⟨h.1, fun i hi => ?_⟩
  rw [List.length_take] at hi
  have e : (xs.take n).getD i (0, 0) = xs.getD i (0, 0) := by simp [List.getD, show i < n by omega]
  rw [e]; exact h.2 i (by omega)

/-- The first test of spec.ExecOk. -/
theorem endOk_true {k v : Int} {nr np : Nat} (h : endOk k v nr np = true) : (k = 0 ∧ numOk v = true) ∨ ((k = 1 ∨ k = 2) ∧ v = 0 ∧ np = 0) ∨ (k = 3 ∧ v = 0 ∧ np = 0 ∧ nr = 0) := by
  unfold endOk at h
  split at h
  · exact .inl ⟨by assumption, h⟩
  split at h
  · simp at h; exact .inr (.inl ⟨by assumption, h.1, h.2⟩)
  split at h
  · simp at h; exact .inr (.inr ⟨by assumption, h.1.1, h.1.2, h.2⟩)
  · cases h
theorem endOk_falls {k v : Int} {nr np : Nat} (h : endOk k v nr np = false) : k < 0 ∨ 3 < k ∨ (0 ≤ k ∧ k ≤ 3 ∧ numOk v = false) ∨ (1 ≤ k ∧ k ≤ 3 ∧ numOk v = true ∧ v ≠ 0) ∨ (1 ≤ k ∧ k ≤ 3 ∧ v = 0 ∧ 0 < np) ∨ (k = 3 ∧ v = 0 ∧ np = 0 ∧ 0 < nr) := by
  by_cases h1 : k < 0
  · exact .inl h1
  by_cases h2 : 3 < k
  · exact .inr (.inl h2)
  cases hn : numOk v with
  | false => exact .inr (.inr (.inl ⟨by omega, by omega, rfl⟩))
  | true =>
    by_cases h0 : k = 0
    · subst h0; rw [endOk_0, hn] at h; cases h
    by_cases hv : v = 0
    · subst hv
      by_cases hp : 0 < np
      · exact .inr (.inr (.inr (.inr (.inl ⟨by omega, by omega, rfl, hp⟩))))
      by_cases h3 : k = 3
      · subst h3
        by_cases hr : 0 < nr
        · exact .inr (.inr (.inr (.inr (.inr ⟨rfl, rfl, by omega, hr⟩))))
        · rw [endOk_3] at h; simp at h; omega
      · have : k = 1 ∨ k = 2 := by omega
        rcases this with rfl | rfl
        · rw [endOk_1] at h; simp at h; omega
        · rw [endOk_2] at h; simp at h; omega
    · exact .inr (.inr (.inr (.inl ⟨by omega, by omega, rfl, hv⟩)))

set_option maxRecDepth 100000 in
set_option maxHeartbeats 2000000 in
theorem specExecOk_no (a1 a2 : Option Addr) (n1 c1 n2 c2 : Nat) (v k : Int) (w : World) (h : endOk k v n1 n2 = false) :
    Calls Try.prog 134 #[.agg #[.slice a1 n1 c1, .slice a2 n2 c2, .int .i64 v, .int .i64 k]] w fun e w' => e = .returned (.bool false) ∧ Below w.heap.size w w' := by
  have B0 : ∀ o, Hid (Below w.heap.size w (w.alloc o)) := fun o => (Below.refl _ _).alloc (Nat.le_refl _) _
  rcases endOk_falls h with h | h | ⟨h1, h2, h3⟩ | ⟨h1, h2, h3, h4⟩ | ⟨h1, h2, rfl, h4⟩ | ⟨rfl, rfl, rfl, h4⟩
  · go_enter Try.func134, Try.ntmps134
    go_wp2
    go_ret
    exact ⟨rfl, (B0 _).out⟩
  · have h' : ¬ k < 0 := by omega
    go_enter Try.func134, Try.ntmps134
    go_wp2
    go_ret
    exact ⟨rfl, (B0 _).out⟩
  · have H3 : Hid (numOk v = false) := h3
    clear h3
    go_enter Try.func134, Try.ntmps134
    go_wp2_with fail
    refine (l1Num v _).mono ?_
    rintro e w1 ⟨rfl, rfl⟩
    rw [H3.out]
    go_wp2
    go_ret
    exact ⟨rfl, (B0 _).out⟩
  · have H3 : Hid (numOk v = true) := h3
    have e0 : (k != 0) = true := by simp; omega
    have e1 : (v != 0) = true := by simpa using h4
    clear h3 h4
    go_enter Try.func134, Try.ntmps134
    go_wp2_with fail
    refine (l1Num v _).mono ?_
    rintro e w1 ⟨rfl, rfl⟩
    rw [H3.out]
    go_wp2
    go_ret
    exact ⟨rfl, (B0 _).out⟩
  · have e0 : (k != 0) = true := by simp; omega
    have e1 : decide ((0 : Int) < (n2 : Int)) = true := by simp; omega
    go_enter Try.func134, Try.ntmps134
    go_wp2_with fail
    refine (l1Num 0 _).mono ?_
    rintro e w1 ⟨rfl, rfl⟩
    rw [show numOk 0 = true from rfl]
    go_wp2
    go_ret
    exact ⟨rfl, (B0 _).out⟩
  · have e1 : decide ((0 : Int) < (n1 : Int)) = true := by simp; omega
    go_enter Try.func134, Try.ntmps134
    go_wp2_with fail
    refine (l1Num 0 _).mono ?_
    rintro e w1 ⟨rfl, rfl⟩
    rw [show numOk 0 = true from rfl]
    go_wp2
    go_ret
    exact ⟨rfl, (B0 _).out⟩
end Go.Proofs.Ytfifiobcmdmefaa.Own

namespace Go.Proofs.Ytfifiobcmdmefaa.Own
open Go.RowKit
set_option linter.unusedVariables false
set_option linter.unusedSimpArgs false

set_option maxRecDepth 100000 in
set_option maxHeartbeats 4000000 in
theorem specExecOk_yes (a1 a2 : Option Addr) (c1 c2 : Nat) (xs ys : List P2) (v k : Int) (w : World) (h1 : Sl w a1 xs) (h2 : Sl w a2 ys) (hn1 : xs.length ≤ 2 ^ 40) (hn2 : ys.length ≤ 2 ^ 40) (hc1 : xs.length ≤ c1) (hc2 : ys.length ≤ c2) (he : endOk k v xs.length ys.length = true) :
    Calls Try.prog 134 #[.agg #[.slice a1 xs.length c1, .slice a2 ys.length c2, .int .i64 v, .int .i64 k]] w fun e w' => e = .returned (.bool (okAll verOk xs && okAll numOk ys)) ∧ Below w.heap.size w w' := by
  obtain ⟨n1, l1⟩ : ∃ n, xs.length = n := ⟨_, rfl⟩
  obtain ⟨n2, l2⟩ : ∃ n, ys.length = n := ⟨_, rfl⟩
  rw [l1] at hn1 hc1 he ⊢
  rw [l2] at hn2 hc2 he ⊢
  have L1 : Hid (xs.length = n1) := l1
  have L2 : Hid (ys.length = n2) := l2
  clear l1 l2
  have H1 : Hid (Sl w a1 xs) := h1
  have H2 : Hid (Sl w a2 ys) := h2
  clear h1 h2
  obtain ⟨W, hW⟩ : ∃ W, W = w.alloc (.cells #[.slice a1 n1 c1, .slice a2 n2 c2, .int .i64 v, .int .i64 k] 31) := ⟨_, rfl⟩
  have hbW : Hid (Below w.heap.size w W) := by
    show Below _ _ _
    rw [hW]; exact (Below.refl _ _).alloc (Nat.le_refl _) _
  have hsW : Hid (W.heap.size = w.heap.size + 1) := by show _ = _; rw [hW]; simp
  have g0 : Hid (W.heap[w.heap.size]? = some (.cells #[.slice a1 n1 c1, .slice a2 n2 c2, .int .i64 v, .int .i64 k] 31 (0, 0))) := by
    show _ = _
    rw [hW]; exact heap_new _ _
  have HW : Hid (W = _) := hW
  clear hW
  have HN : Hid (numOk v = true) := by
    rcases endOk_true he with ⟨_, h⟩ | ⟨_, rfl, _⟩ | ⟨_, rfl, _⟩
    · exact h
    · rfl
    · rfl
  have hcases : (¬ k < 0 ∧ ¬ 3 < k) ∧ (((k != 0) = false ∧ (k == 3) = false) ∨ ((k != 0) = true ∧ (v != 0) = false ∧ n2 = 0 ∧ (k == 3) = false) ∨ ((k != 0) = true ∧ (v != 0) = false ∧ n2 = 0 ∧ (k == 3) = true ∧ n1 = 0)) := by
    rcases endOk_true he with ⟨rfl, _⟩ | ⟨h, rfl, h2⟩ | ⟨rfl, rfl, h2, h3⟩
    · exact ⟨by omega, .inl ⟨rfl, rfl⟩⟩
    · refine ⟨by omega, .inr (.inl ⟨by simp; omega, rfl, h2, by simp; omega⟩)⟩
    · exact ⟨by omega, .inr (.inr ⟨rfl, rfl, h2, rfl, h3⟩)⟩
  clear he
  have HC : Hid ((¬ k < 0 ∧ ¬ 3 < k) ∧ (((k != 0) = false ∧ (k == 3) = false) ∨ ((k != 0) = true ∧ (v != 0) = false ∧ n2 = 0 ∧ (k == 3) = false) ∨ ((k != 0) = true ∧ (v != 0) = false ∧ n2 = 0 ∧ (k == 3) = true ∧ n1 = 0))) := hcases
  clear hcases
  go_enter Try.func134, Try.ntmps134
  go_upto_region 1 with fail
  go_cut [45] from 5 to 45 (fun c wx => c = .bool false ∧ wx = W)
  case first =>
    obtain ⟨⟨k0, k3⟩, hcases⟩ := HC.out
    rcases hcases with ⟨e0, e3⟩ | ⟨e0, ev, rfl, e3⟩ | ⟨e0, ev, rfl, e3, rfl⟩
    all_goals
      go_wp2_with fail
      refine (l1Num v _).mono ?_
      rintro e w1 ⟨rfl, rfl⟩
      rw [HN.out]
      go_wp2_with fail
      go_meet
      exact ⟨rfl, HW.out.symm⟩
  case rest =>
    obtain ⟨rfl, hwc⟩ := hcut
    have hwc' := hwc.symm
    subst hwc'
    clear HC HN hwc
    have q0 : W.cell? ⟨w.heap.size, 0, none⟩ = some (.slice a1 n1 c1) := by rw [cell_heap g0.out]; rfl
    have q1 : W.cell? ⟨w.heap.size, 1, none⟩ = some (.slice a2 n2 c2) := by rw [cell_heap g0.out]; rfl
    go_wp2_with fail
    go_loopw [3] (fun i wr => ∃ j : Nat, j ≤ n1 ∧ i = .int .i64 j ∧ Hid (∀ i, i < j → okAt verOk xs i = true) ∧ Below W.heap.size W wr) (fun i _ => n1 - (intOf i).toNat)
    case atStart => exact ⟨0, Nat.zero_le _, rfl, fun i hi => by omega, Below.refl _ _⟩
    case round =>
      obtain ⟨j, hj, rfl, hA, hB⟩ := hrel
      have HB : Hid (Below W.heap.size W wr) := hB
      have s0 : wr.cell? ⟨w.heap.size, 0, none⟩ = some (.slice a1 n1 c1) := by rw [hB.cell (p := ⟨w.heap.size, 0, none⟩) (by show w.heap.size < _; have := hsW.out; omega)]; exact q0
      have s1 : wr.cell? ⟨w.heap.size, 1, none⟩ = some (.slice a2 n2 c2) := by rw [hB.cell (p := ⟨w.heap.size, 1, none⟩) (by show w.heap.size < _; have := hsW.out; omega)]; exact q1
      clear q0 q1
      by_cases hlt : j < n1
      · rcases H1.out with h | ⟨b1, o1, rfl, h1⟩
        · have := L1.out; subst h; simp at this; omega
        have H1' : Hid (BoxAt wr b1 o1 xs) := (h1.below hbW.out).below hB
        clear h1 hB
        obtain ⟨p, hp⟩ : ∃ p, p = xs.getD j (0, 0) := ⟨_, rfl⟩
        obtain ⟨ca, cb⟩ := H1'.out.2 j (by rw [L1.out]; exact hlt)
        rw [← hp] at ca cb
        have HP : Hid (p = xs.getD j (0, 0)) := hp
        clear hp
        obtain ⟨p1, p2⟩ := p
        have HS : Hid (okAt verOk xs j = (regOk p1 && verOk p2 && !((xs.take j).any fun p => p.1 == p1))) := by show _ = _; unfold okAt; rw [← HP.out]
        have SC : Hid (∀ n, Calls Try.prog 162 #[.slice (some ⟨b1, o1, none⟩) j c1, .int .i64 p1] (wr.drewN n) fun e w' => e = .returned (.bool ((xs.take j).any fun p => p.1 == p1)) ∧ w' = wr.drewN n) := fun n =>
          l3Saw (some ⟨b1, o1, none⟩) c1 j (xs.take j) p1 _ (.inr ⟨_, _, rfl, H1'.out.pre j (by have := L1.out; omega)⟩) (by have := L1.out; simp; omega) (by omega)
        generalize ((xs.take j).any fun p => p.1 == p1) = sn at HS SC
        have hjc : j ≤ c1 := by omega
        go_upto_region 6 with fail
        go_cut [91] from 46 to 91 (fun c wx => c = .bool (!(regOk p1 && verOk p2 && !sn)) ∧ Below W.heap.size W wx)
        case first =>
          cases hr : regOk p1 with
          | false =>
            go_quiet ((first | (go_at_call 161; exact Calls.quiet_of_same (l2Box _ _)) | (go_at_call 162; exact Calls.quiet_of_same (SC.out _))))
            go_wp2
            go_meet
            exact ⟨by rw [hr]; rfl, below_drewN HB.out _⟩
          | true =>
            by_cases t1 : p2 < 0
            · have V : Hid (verOk p2 = false) := by show _ = _; simp [verOk]; omega
              go_quiet ((first | (go_at_call 161; exact Calls.quiet_of_same (l2Box _ _)) | (go_at_call 162; exact Calls.quiet_of_same (SC.out _))))
              go_wp2
              go_meet
              exact ⟨by rw [hr, V.out]; rfl, below_drewN HB.out _⟩
            · by_cases t2 : 1000000 < p2
              · have V : Hid (verOk p2 = false) := by show _ = _; simp [verOk]; omega
                have t2' : decide (1000000 < p2) = true := by simpa using t2
                go_quiet ((first | (go_at_call 161; exact Calls.quiet_of_same (l2Box _ _)) | (go_at_call 162; exact Calls.quiet_of_same (SC.out _))))
                go_wp2
                go_meet
                exact ⟨by rw [hr, V.out]; rfl, below_drewN HB.out _⟩
              · have V : Hid (verOk p2 = true) := by show _ = _; simp [verOk]; omega
                go_quiet ((first | (go_at_call 161; exact Calls.quiet_of_same (l2Box _ _)) | (go_at_call 162; exact Calls.quiet_of_same (SC.out _))))
                go_wp2
                go_meet
                exact ⟨by rw [hr, V.out]; cases sn <;> rfl, below_drewN HB.out _⟩
        case rest =>
          obtain ⟨rfl, hB2⟩ := hcut
          rw [← HS.out]
          have HB2 : Hid (Below W.heap.size W wc) := hB2
          clear hB2 HB ca cb s0 s1 HP HS SC H1'
          cases ho : okAt verOk xs j with
          | false =>
            have F' : Hid ((okAll verOk xs && okAll numOk ys) = false) := by show _ = _; rw [okAll_false (by rw [L1.out]; exact hlt) ho]; rfl
            go_wp2
            go_ret
            exact ⟨ret_bool F'.out.symm, hbW.out.trans (HB2.out.mono (by have := hsW.out; omega))⟩
          | true =>
            have N : Hid (∀ i, i < j + 1 → okAt verOk xs i = true) := by
              intro i hi
              by_cases e : i = j
              · subst e; exact ho
              · exact hA.out i (by omega)
            clear ho
            go_wp2
            go_roundw
            case rel => exact ⟨j + 1, by omega, by go_num, N, HB2.out⟩
            case measure => simp [intOf]; omega
      · have HA : Hid (okAll verOk xs = true) := by
          have h1 : j = n1 := by omega
          have h2 := hA.out
          rw [h1, ← L1.out] at h2
          exact okAll_iff.2 h2
        have E : Hid ((okAll verOk xs && okAll numOk ys) = okAll numOk ys) := by show _ = _; rw [HA.out]; rfl
        clear hA hB HA
        go_wp2_with fail
        go_loopw [4] (fun i ws => ∃ j : Nat, j ≤ n2 ∧ i = .int .i64 j ∧ Hid (∀ i, i < j → okAt numOk ys i = true) ∧ Below W.heap.size W ws) (fun i _ => n2 - (intOf i).toNat)
        case atStart => exact ⟨0, Nat.zero_le _, rfl, fun i hi => by omega, HB.out⟩
        case round =>
          clear s0 s1 HB hlt hj
          obtain ⟨m, hm, rfl, hA, hB⟩ := hrel
          have HB : Hid (Below W.heap.size W wr) := hB
          have s1 : wr.cell? ⟨w.heap.size, 1, none⟩ = some (.slice a2 n2 c2) := by rw [hB.cell (p := ⟨w.heap.size, 1, none⟩) (by show w.heap.size < _; have := hsW.out; omega), cell_heap g0.out]; rfl
          by_cases hlt : m < n2
          · rcases H2.out with h | ⟨b1, o1, rfl, h1⟩
            · have := L2.out; subst h; simp at this; omega
            have H1' : Hid (BoxAt wr b1 o1 ys) := (h1.below hbW.out).below hB
            clear h1 hB
            obtain ⟨p, hp⟩ : ∃ p, p = ys.getD m (0, 0) := ⟨_, rfl⟩
            obtain ⟨ca, cb⟩ := H1'.out.2 m (by rw [L2.out]; exact hlt)
            rw [← hp] at ca cb
            have HP : Hid (p = ys.getD m (0, 0)) := hp
            clear hp
            obtain ⟨p1, p2⟩ := p
            have HS : Hid (okAt numOk ys m = (regOk p1 && numOk p2 && !((ys.take m).any fun p => p.1 == p1))) := by show _ = _; unfold okAt; rw [← HP.out]
            have SC : Hid (∀ n, Calls Try.prog 163 #[.slice (some ⟨b1, o1, none⟩) m c2, .int .i64 p1] (wr.drewN n) fun e w' => e = .returned (.int .i64 (placeOf (ys.take m) p1)) ∧ w' = wr.drewN n) := fun n =>
              l3At (some ⟨b1, o1, none⟩) c2 m (ys.take m) p1 _ (.inr ⟨_, _, rfl, H1'.out.pre m (by have := L2.out; omega)⟩) (by have := L2.out; simp; omega) (by omega)
            have SP : Hid (decide (placeOf (ys.take m) p1 ≥ 0) = ((ys.take m).any fun p => p.1 == p1)) := placeOf_neg _ _
            generalize ((ys.take m).any fun p => p.1 == p1) = sn at HS SP
            generalize placeOf (ys.take m) p1 = pl at SC SP
            have hjc : m ≤ c2 := by omega
            go_upto_region 11 with fail
            go_cut [130] from 92 to 130 (fun c wx => c = .bool (!(regOk p1 && numOk p2 && !sn)) ∧ Below W.heap.size W wx)
            case first =>
              cases hr : regOk p1 with
              | false =>
                go_quiet ((first | (go_at_call 161; exact Calls.quiet_of_same (l2Box _ _)) | (go_at_call 157; exact Calls.quiet_of_same (l1Num _ _)) | (go_at_call 163; exact Calls.quiet_of_same (SC.out _))))
                go_wp2
                go_meet
                exact ⟨by rw [hr]; rfl, below_drewN HB.out _⟩
              | true =>
                cases hv : numOk p2 with
                | false =>
                  go_quiet ((first | (go_at_call 161; exact Calls.quiet_of_same (l2Box _ _)) | (go_at_call 157; exact Calls.quiet_of_same (l1Num _ _)) | (go_at_call 163; exact Calls.quiet_of_same (SC.out _))))
                  go_wp2
                  go_meet
                  exact ⟨by rw [hr, hv]; rfl, below_drewN HB.out _⟩
                | true =>
                  go_quiet ((first | (go_at_call 161; exact Calls.quiet_of_same (l2Box _ _)) | (go_at_call 157; exact Calls.quiet_of_same (l1Num _ _)) | (go_at_call 163; exact Calls.quiet_of_same (SC.out _))))
                  go_wp2
                  go_meet
                  exact ⟨by rw [hr, hv, ← SP.out]; simp, below_drewN HB.out _⟩
            case rest =>
              obtain ⟨rfl, hB2⟩ := hcut
              rw [← HS.out]
              have HB2 : Hid (Below W.heap.size W wc) := hB2
              clear hB2 HB ca cb s1 HP HS SC H1' SP
              cases ho : okAt numOk ys m with
              | false =>
                have F' : Hid (okAll numOk ys = false) := okAll_false (by rw [L2.out]; exact hlt) ho
                go_wp2
                go_ret
                exact ⟨ret_bool (by rw [E.out]; exact F'.out.symm), hbW.out.trans (HB2.out.mono (by have := hsW.out; omega))⟩
              | true =>
                have N : Hid (∀ i, i < m + 1 → okAt numOk ys i = true) := by
                  intro i hi
                  by_cases e : i = m
                  · subst e; exact ho
                  · exact hA.out i (by omega)
                clear ho
                go_wp2
                go_roundw
                case rel => exact ⟨m + 1, by omega, by go_num, N, HB2.out⟩
                case measure => simp [intOf]; omega
          · have HA : Hid (okAll numOk ys = true) := by
              have h1 : m = n2 := by omega
              have h2 := hA.out
              rw [h1, ← L2.out] at h2
              exact okAll_iff.2 h2
            clear hA hB
            go_wp2
            go_ret
            exact ⟨ret_bool (by rw [E.out]; exact HA.out.symm), hbW.out.trans (HB.out.mono (by have := hsW.out; omega))⟩

theorem specExecOk (a1 a2 : Option Addr) (c1 c2 : Nat) (xs ys : List P2) (v k : Int) (w : World) (h1 : Sl w a1 xs) (h2 : Sl w a2 ys) (hn1 : xs.length ≤ 2 ^ 40) (hn2 : ys.length ≤ 2 ^ 40) (hc1 : xs.length ≤ c1) (hc2 : ys.length ≤ c2) :
    Calls Try.prog 134 #[.agg #[.slice a1 xs.length c1, .slice a2 ys.length c2, .int .i64 v, .int .i64 k]] w fun e w' => e = .returned (.bool (execOk xs ys v k)) ∧ Below w.heap.size w w' := by
  unfold execOk
  cases he : endOk k v xs.length ys.length with
  | false => exact specExecOk_no a1 a2 _ c1 _ c2 v k w he
  | true =>
    refine (specExecOk_yes a1 a2 c1 c2 xs ys v k w h1 h2 hn1 hn2 hc1 hc2 he).mono ?_
    rintro e w' ⟨rfl, hb⟩
    exact ⟨by simp, hb⟩
end Go.Proofs.Ytfifiobcmdmefaa.Own

namespace Go.Proofs.Ytfifiobcmdmefaa.Own
open Go.RowKit
set_option linter.unusedVariables false
set_option linter.unusedSimpArgs false

set_option maxRecDepth 100000 in
set_option maxHeartbeats 4000000 in
theorem specExecSame (a1 a2 b1 b2 : Option Addr) (c1 c2 d1 d2 : Nat) (xs ys zs us : List P2) (v k v' k' : Int) (w : World) (h1 : Sl w a1 xs) (h2 : Sl w a2 ys) (h3 : Sl w b1 zs) (h4 : Sl w b2 us)
    (n1 : xs.length ≤ 2 ^ 40) (n2 : ys.length ≤ 2 ^ 40) (n3 : zs.length ≤ 2 ^ 40) (n4 : us.length ≤ 2 ^ 40) :
    Calls Try.prog 132 #[.agg #[.slice a1 xs.length c1, .slice a2 ys.length c2, .int .i64 v, .int .i64 k], .agg #[.slice b1 zs.length d1, .slice b2 us.length d2, .int .i64 v', .int .i64 k']] w fun e w' => e = .returned (.bool (sameRun xs ys zs us v k v' k')) ∧ Below w.heap.size w w' := by
  have H1 : Hid (Sl w a1 xs) := h1
  have H2 : Hid (Sl w a2 ys) := h2
  have H3 : Hid (Sl w b1 zs) := h3
  have H4 : Hid (Sl w b2 us) := h4
  clear h1 h2 h3 h4
  have E : Hid (sameRun xs ys zs us v k v' k' = (k == k' && v == v' && xs == zs && ys == us)) := rfl
  obtain ⟨W, hW⟩ : ∃ W, W = (w.alloc (.cells #[.slice a1 xs.length c1, .slice a2 ys.length c2, .int .i64 v, .int .i64 k] 31)).alloc (.cells #[.slice b1 zs.length d1, .slice b2 us.length d2, .int .i64 v', .int .i64 k'] 31) := ⟨_, rfl⟩
  have hbW : Hid (Below w.heap.size w W) := by
    show Below _ _ _
    rw [hW]; exact ((Below.refl _ _).alloc (Nat.le_refl _) _).alloc (by simp) _
  have hsW : Hid (W.heap.size = w.heap.size + 2) := by show _ = _; rw [hW]; simp
  have g0 : Hid (W.heap[w.heap.size]? = some (.cells #[.slice a1 xs.length c1, .slice a2 ys.length c2, .int .i64 v, .int .i64 k] 31 (0, 0))) := by
    show _ = _
    rw [hW]; exact heap_new1 _ _ _
  have g1 : Hid (W.heap[w.heap.size + 1]? = some (.cells #[.slice b1 zs.length d1, .slice b2 us.length d2, .int .i64 v', .int .i64 k'] 31 (0, 0))) := by
    show _ = _
    rw [hW]; exact heap_new2 _ _ _
  have CC : Hid (∀ wr, Below W.heap.size W wr → (wr.cell? ⟨w.heap.size, 0, none⟩ = some (.slice a1 xs.length c1) ∧ wr.cell? ⟨w.heap.size + 1, 0, none⟩ = some (.slice b1 zs.length d1)) ∧ wr.cell? ⟨w.heap.size, 1, none⟩ = some (.slice a2 ys.length c2) ∧ wr.cell? ⟨w.heap.size + 1, 1, none⟩ = some (.slice b2 us.length d2)) := by
    intro wr hB
    have e0 : ∀ o, wr.cell? ⟨w.heap.size, o, none⟩ = W.cell? ⟨w.heap.size, o, none⟩ := fun o => hB.cell (p := ⟨w.heap.size, o, none⟩) (by show w.heap.size < _; have := hsW.out; omega)
    have e1 : ∀ o, wr.cell? ⟨w.heap.size + 1, o, none⟩ = W.cell? ⟨w.heap.size + 1, o, none⟩ := fun o => hB.cell (p := ⟨w.heap.size + 1, o, none⟩) (by show w.heap.size + 1 < _; have := hsW.out; omega)
    rw [e0, e0, e1, e1, cell_heap g0.out, cell_heap g0.out, cell_heap g1.out, cell_heap g1.out]
    exact ⟨⟨rfl, rfl⟩, rfl, rfl⟩
  have HW : Hid (W = _) := hW
  clear hW
  obtain ⟨bad, hbad⟩ : ∃ b, b = (v != v' || (k != k' || ((xs.length : Int) != (zs.length : Int) || (ys.length : Int) != (us.length : Int)))) := ⟨_, rfl⟩
  have HBAD : Hid (bad = (v != v' || (k != k' || ((xs.length : Int) != (zs.length : Int) || (ys.length : Int) != (us.length : Int))))) := hbad
  clear hbad
  go_enter Try.func132, Try.ntmps132
  go_upto_region 1 with fail
  go_cut [36] from 7 to 36 (fun c wx => c = .bool bad ∧ wx = W)
  case first =>
    cases e1 : (v != v') with
    | true =>
      go_wp2_with fail
      go_meet
      exact ⟨by rw [HBAD.out, e1]; rfl, HW.out.symm⟩
    | false =>
      cases e2 : (k != k') with
      | true =>
        go_wp2_with fail
        go_meet
        exact ⟨by rw [HBAD.out, e1, e2]; rfl, HW.out.symm⟩
      | false =>
        cases e3 : ((xs.length : Int) != (zs.length : Int)) with
        | true =>
          go_wp2_with fail
          go_meet
          exact ⟨by rw [HBAD.out, e1, e2, e3]; rfl, HW.out.symm⟩
        | false =>
          go_wp2_with fail
          go_meet
          exact ⟨by rw [HBAD.out, e1, e2, e3]; rfl, HW.out.symm⟩
  case rest =>
    obtain ⟨rfl, hwc⟩ := hcut
    have hwc' := hwc.symm
    subst hwc'
    clear hwc
    cases bad with
    | true =>
      have F : Hid (sameRun xs ys zs us v k v' k' = false) := by
        show _ = _
        rw [Bool.eq_false_iff, E.out]
        intro h
        simp only [Bool.and_eq_true, beq_iff_eq] at h
        obtain ⟨⟨⟨rfl, rfl⟩, rfl⟩, rfl⟩ := h
        have := HBAD.out
        simp at this
      go_wp2_with fail
      go_ret
      exact ⟨ret_bool F.out.symm, hbW.out⟩
    | false =>
      have HE : Hid (v = v' ∧ k = k' ∧ xs.length = zs.length ∧ ys.length = us.length) := by
        have := HBAD.out.symm
        simp only [Bool.or_eq_false_iff, bne_eq_false_iff_eq] at this
        exact ⟨this.1, this.2.1, by omega, by omega⟩
      have E2 : Hid (sameRun xs ys zs us v k v' k' = (xs == zs && ys == us)) := by show _ = _; rw [E.out]; simp [HE.out.1, HE.out.2.1]
      clear HBAD E
      obtain ⟨⟨q0, q1⟩, _⟩ := CC.out W (Below.refl _ _)
      go_wp2_with fail
      clear q0 q1
      go_loopw [5] (fun i wr => ∃ j : Nat, j ≤ xs.length ∧ i = .int .i64 j ∧ Hid (xs.take j = zs.take j) ∧ Below W.heap.size W wr) (fun i _ => xs.length - (intOf i).toNat)
      case atStart => exact ⟨0, Nat.zero_le _, rfl, rfl, Below.refl _ _⟩
      case round =>
        obtain ⟨j, hj, rfl, hA, hB⟩ := hrel
        have HB : Hid (Below W.heap.size W wr) := hB
        obtain ⟨⟨q0, q1⟩, q2, q3⟩ := CC.out wr hB
        by_cases hlt : j < xs.length
        · have hlt2 : j < zs.length := by rw [← HE.out.2.2.1]; exact hlt
          rcases H1.out with h | ⟨b1', o1, rfl, h1⟩
          · subst h; simp at hlt
          rcases H3.out with h | ⟨b2', o2, rfl, h2⟩
          · subst h; simp at hlt2
          have H1' : Hid (BoxAt wr b1' o1 xs) := (h1.below hbW.out).below hB
          have H2' : Hid (BoxAt wr b2' o2 zs) := (h2.below hbW.out).below hB
          clear h1 h2 hB
          have HT : Hid ((xs.take (j + 1) = zs.take (j + 1)) ↔ (xs.getD j (0, 0) = zs.getD j (0, 0))) := by
            unfold Hid; rw [take_succ_eqG (0, 0) hlt hlt2]; exact ⟨fun h => h.2, fun h => ⟨hA, h⟩⟩
          obtain ⟨p, hp⟩ : ∃ p, p = xs.getD j (0, 0) := ⟨_, rfl⟩
          obtain ⟨q, hq⟩ : ∃ q, q = zs.getD j (0, 0) := ⟨_, rfl⟩
          obtain ⟨ca, cb⟩ := H1'.out.2 j hlt
          obtain ⟨da, db⟩ := H2'.out.2 j hlt2
          rw [← hp] at ca cb
          rw [← hq] at da db
          have HP : Hid (p = xs.getD j (0, 0)) := hp
          have HQ : Hid (q = zs.getD j (0, 0)) := hq
          clear hp hq
          obtain ⟨p1, p2⟩ := p
          obtain ⟨r1, r2⟩ := q
          have hne := fun w => neqRead p1 p2 r1 r2 w
          cases hpq : eq2 (p1, p2) (r1, r2) with
          | true =>
            have N : Hid (xs.take (j + 1) = zs.take (j + 1)) := by
              show _ = _
              apply HT.out.2
              rw [← HP.out, ← HQ.out]
              exact (eq2_iff _ _).1 hpq
            rw [hpq] at hne
            clear HT
            go_wp2
            go_quiet (fail)
            go_wp2
            go_roundw
            case rel => exact ⟨j + 1, by omega, by go_num, N, below_drewN HB.out _⟩
            case measure => simp [intOf]; omega
          | false =>
            have F : Hid ((xs == zs) = false) := by
              show _ = _
              apply ne_of_getDG (k := j) (0, 0)
              rw [← HP.out, ← HQ.out]
              exact (eq2_false _ _).1 hpq
            rw [hpq] at hne
            clear HT
            go_wp2
            go_quiet (fail)
            go_wp2
            go_ret
            exact ⟨ret_bool (by rw [E2.out, F.out]; rfl), below_drewN (hbW.out.trans (HB.out.mono hbW.out.size)) _⟩
        · have HA : Hid ((xs == zs) = true) := by
            show _ = _
            have h1 : j = xs.length := by omega
            have h := hA.out
            subst h1
            rw [List.take_length] at h
            have h3 := HE.out.2.2.1
            rw [List.take_of_length_le (by omega)] at h
            simp [h]
          clear hB hA
          go_wp2_with fail
          clear q0 q1 q2 q3 hlt
          go_loopw [6] (fun i ws => ∃ j : Nat, j ≤ ys.length ∧ i = .int .i64 j ∧ Hid (ys.take j = us.take j) ∧ Below W.heap.size W ws) (fun i _ => ys.length - (intOf i).toNat)
          case atStart => exact ⟨0, Nat.zero_le _, rfl, rfl, HB.out⟩
          case round =>
            clear HB
            obtain ⟨m, hm, rfl, hA, hB⟩ := hrel
            have HB : Hid (Below W.heap.size W wr) := hB
            obtain ⟨_, q2, q3⟩ := CC.out wr hB
            by_cases hlt : m < ys.length
            · have hlt2 : m < us.length := by rw [← HE.out.2.2.2]; exact hlt
              rcases H2.out with h | ⟨b1', o1, rfl, h1⟩
              · subst h; simp at hlt
              rcases H4.out with h | ⟨b2', o2, rfl, h2⟩
              · subst h; simp at hlt2
              have H1' : Hid (BoxAt wr b1' o1 ys) := (h1.below hbW.out).below hB
              have H2' : Hid (BoxAt wr b2' o2 us) := (h2.below hbW.out).below hB
              clear h1 h2 hB
              have HT : Hid ((ys.take (m + 1) = us.take (m + 1)) ↔ (ys.getD m (0, 0) = us.getD m (0, 0))) := by
                unfold Hid; rw [take_succ_eqG (0, 0) hlt hlt2]; exact ⟨fun h => h.2, fun h => ⟨hA, h⟩⟩
              obtain ⟨p, hp⟩ : ∃ p, p = ys.getD m (0, 0) := ⟨_, rfl⟩
              obtain ⟨q, hq⟩ : ∃ q, q = us.getD m (0, 0) := ⟨_, rfl⟩
              obtain ⟨ca, cb⟩ := H1'.out.2 m hlt
              obtain ⟨da, db⟩ := H2'.out.2 m hlt2
              rw [← hp] at ca cb
              rw [← hq] at da db
              have HP : Hid (p = ys.getD m (0, 0)) := hp
              have HQ : Hid (q = us.getD m (0, 0)) := hq
              clear hp hq
              obtain ⟨p1, p2⟩ := p
              obtain ⟨r1, r2⟩ := q
              have hne := fun w => neqPut p1 p2 r1 r2 w
              cases hpq : eq2 (p1, p2) (r1, r2) with
              | true =>
                have N : Hid (ys.take (m + 1) = us.take (m + 1)) := by
                  show _ = _
                  apply HT.out.2
                  rw [← HP.out, ← HQ.out]
                  exact (eq2_iff _ _).1 hpq
                rw [hpq] at hne
                clear HT
                go_wp2
                go_quiet (fail)
                go_wp2
                go_roundw
                case rel => exact ⟨m + 1, by omega, by go_num, N, below_drewN HB.out _⟩
                case measure => simp [intOf]; omega
              | false =>
                have F : Hid ((ys == us) = false) := by
                  show _ = _
                  apply ne_of_getDG (k := m) (0, 0)
                  rw [← HP.out, ← HQ.out]
                  exact (eq2_false _ _).1 hpq
                rw [hpq] at hne
                clear HT
                go_wp2
                go_quiet (fail)
                go_wp2
                go_ret
                exact ⟨ret_bool (by rw [E2.out, F.out]; simp), below_drewN (hbW.out.trans (HB.out.mono hbW.out.size)) _⟩
            · have HA2 : Hid ((ys == us) = true) := by
                show _ = _
                have h1 : m = ys.length := by omega
                have h := hA.out
                subst h1
                rw [List.take_length] at h
                have h3 := HE.out.2.2.2
                rw [List.take_of_length_le (by omega)] at h
                simp [h]
              clear hB hA
              go_wp2
              go_ret
              exact ⟨ret_bool (by rw [E2.out, HA.out, HA2.out]; rfl), hbW.out.trans (HB.out.mono hbW.out.size)⟩
end Go.Proofs.Ytfifiobcmdmefaa.Own

namespace Go.Proofs.Ytfifiobcmdmefaa.Own
open Go.RowKit
set_option linter.unusedVariables false
set_option linter.unusedSimpArgs false

theorem specReqOk (p q : Int) (w : World) : Calls Try.prog 133 #[.agg #[.int .i64 p, .int .i64 q]] w fun e w' => e = .returned (.bool (reqOk p q)) ∧ Below w.heap.size w w' := by
  have R : Hid (reqOk p q = (decide (0 ≤ p) && decide (p < 3) && decide (1 ≤ q) && decide (q ≤ 1000))) := rfl
  have B0 : ∀ o, Hid (Below w.heap.size w (w.alloc o)) := fun o => (Below.refl _ _).alloc (Nat.le_refl _) _
  cases h1 : decide (0 ≤ p) with
  | false =>
    go_enter Try.func133, Try.ntmps133
    go_wp2
    go_ret
    exact ⟨ret_bool (by rw [R.out, h1]; rfl), (B0 _).out⟩
  | true =>
    cases h2 : decide (p < 3) with
    | false =>
      go_enter Try.func133, Try.ntmps133
      go_wp2
      go_ret
      exact ⟨ret_bool (by rw [R.out, h1, h2]; rfl), (B0 _).out⟩
    | true =>
      cases h3 : decide (1 ≤ q) with
      | false =>
        go_enter Try.func133, Try.ntmps133
        go_wp2
        go_ret
        exact ⟨ret_bool (by rw [R.out, h1, h2, h3]; rfl), (B0 _).out⟩
      | true =>
        go_enter Try.func133, Try.ntmps133
        go_wp2
        go_ret
        exact ⟨ret_bool (by rw [R.out, h1, h2, h3]; rfl), (B0 _).out⟩

set_option maxRecDepth 100000 in
set_option maxHeartbeats 1000000 in
theorem specCertEntryRun (p q : Int) (a1 a2 : Option Addr) (c1 c2 : Nat) (xs ys : List P2) (v k : Int) (w : World) (h1 : Sl w a1 xs) (h2 : Sl w a2 ys) (n1 : xs.length ≤ 2 ^ 40) (n2 : ys.length ≤ 2 ^ 40) (hc1 : xs.length ≤ c1) (hc2 : ys.length ≤ c2) :
    Calls Try.prog 99 #[.agg #[.bool false, .int .i64 p, .int .i64 q, .slice a1 xs.length c1, .slice a2 ys.length c2, .int .i64 v, .int .i64 k]] w fun e w' => e = .returned (.bool (reqOk p q && execOk xs ys v k && k != 3)) ∧ Below w.heap.size w w' := by
  have H1 : Hid (Sl w a1 xs) := h1
  have H2 : Hid (Sl w a2 ys) := h2
  clear h1 h2
  obtain ⟨W, hW⟩ : ∃ W, W = w.alloc (.cells #[.bool false, .int .i64 p, .int .i64 q, .slice a1 xs.length c1, .slice a2 ys.length c2, .int .i64 v, .int .i64 k] 33) := ⟨_, rfl⟩
  have BW : Hid (Below w.heap.size w W) := by show Below _ _ _; rw [hW]; exact (Below.refl _ _).alloc (Nat.le_refl _) _
  have G0 : Hid (Blk W w.heap.size #[.bool false, .int .i64 p, .int .i64 q, .slice a1 xs.length c1, .slice a2 ys.length c2, .int .i64 v, .int .i64 k] 33) := by show Blk _ _ _ _; rw [hW]; exact Blk.new _ _ _
  have HW : Hid (W = _) := hW
  clear hW
  obtain ⟨T, hT⟩ : ∃ T, T = (reqOk p q && execOk xs ys v k && k != 3) := ⟨_, rfl⟩
  have HT : Hid (T = (reqOk p q && execOk xs ys v k && k != 3)) := hT
  rw [← hT]
  clear hT
  go_enter Try.func99, Try.ntmps99
  go_wp2_with fail
  rw [← HW.out]
  refine (specReqOk p q W).mono ?_
  rintro e w1 ⟨rfl, b1⟩
  have B1 : Hid (Below w.heap.size w w1) := BW.out.trans (b1.mono BW.out.size)
  have D0 : Hid (Blk w1 w.heap.size _ _) := G0.out.keep b1
  obtain ⟨q0, q1, q2, q3, q4, q5, q6⟩ := D0.out.cells7
  clear b1
  generalize reqOk p q = r1 at HT ⊢
  cases r1 with
  | false =>
    have F : Hid (T = false) := by show _ = _; rw [HT.out]; rfl
    go_wp2_with fail
    go_ret
    exact ⟨ret_bool F.out.symm, B1.out⟩
  | true =>
    go_wp2_with fail
    refine (specExecOk a1 a2 c1 c2 xs ys v k w1 (H1.out.below B1.out) (H2.out.below B1.out) n1 n2 hc1 hc2).mono ?_
    rintro e w2 ⟨rfl, b2⟩
    have B2 : Hid (Below w.heap.size w w2) := B1.out.trans (b2.mono B1.out.size)
    obtain ⟨r0, r1, r2, r3, r4, r5, r6⟩ := (D0.out.keep b2).cells7
    clear b2 q0 q1 q2 q3 q4 q5 q6
    generalize execOk xs ys v k = r2' at HT ⊢
    cases r2' with
    | false =>
      have F : Hid (T = false) := by show _ = _; rw [HT.out]; rfl
      go_wp2_with fail
      go_ret
      exact ⟨ret_bool F.out.symm, B2.out⟩
    | true =>
      have F : Hid (T = (k != 3)) := by show _ = _; rw [HT.out]; rfl
      go_wp2_with fail
      go_ret
      exact ⟨ret_bool F.out.symm, B2.out⟩

set_option maxRecDepth 100000 in
set_option maxHeartbeats 1000000 in
theorem specCertEntryNone (p q : Int) (a1 a2 : Option Addr) (c1 c2 : Nat) (xs ys : List P2) (v k : Int) (w : World) (h1 : Sl w a1 xs) (h2 : Sl w a2 ys) (n1 : xs.length ≤ 2 ^ 40) (n2 : ys.length ≤ 2 ^ 40) :
    Calls Try.prog 99 #[.agg #[.bool true, .int .i64 p, .int .i64 q, .slice a1 xs.length c1, .slice a2 ys.length c2, .int .i64 v, .int .i64 k]] w fun e w' => e = .returned (.bool (likeE true true (p, q) (0, 0) xs ys [] [] v k 0 0)) ∧ Below w.heap.size w w' := by
  have H1 : Hid (Sl w a1 xs) := h1
  have H2 : Hid (Sl w a2 ys) := h2
  clear h1 h2
  obtain ⟨W, hW⟩ : ∃ W, W = w.alloc (.cells #[.bool true, .int .i64 p, .int .i64 q, .slice a1 xs.length c1, .slice a2 ys.length c2, .int .i64 v, .int .i64 k] 33) := ⟨_, rfl⟩
  have BW : Hid (Below w.heap.size w W) := by show Below _ _ _; rw [hW]; exact (Below.refl _ _).alloc (Nat.le_refl _) _
  have HW : Hid (W = _) := hW
  clear hW
  have hq := fun w => eqlReq p q 0 0 w
  cases he : eq2 (p, q) (0, 0) with
  | false =>
    have F : Hid (likeE true true (p, q) (0, 0) xs ys [] [] v k 0 0 = false) := likeE_req _ _ _ _ _ _ _ _ he
    rw [he] at hq
    go_enter Try.func99, Try.ntmps99
    go_wp2_with fail
    go_ret
    exact ⟨ret_bool F.out.symm, by rw [← HW.out]; exact BW.out⟩
  | true =>
    have F : Hid (likeE true true (p, q) (0, 0) xs ys [] [] v k 0 0 = sameRun xs ys [] [] v k 0 0) := likeE_run _ _ _ _ _ _ _ _ rfl he
    rw [he] at hq
    go_enter Try.func99, Try.ntmps99
    go_wp2_with fail
    rw [← HW.out]
    refine (specExecSame a1 a2 none none c1 c2 0 0 xs ys [] [] v k 0 0 W (H1.out.below BW.out) (H2.out.below BW.out) (.inl rfl) (.inl rfl) n1 n2 (by simp) (by simp)).mono ?_
    rintro e w1 ⟨rfl, b1'⟩
    have B1 : Hid (Below w.heap.size w w1) := BW.out.trans (b1'.mono BW.out.size)
    clear b1'
    generalize sameRun xs ys [] [] v k 0 0 = r at F ⊢
    go_wp2_with fail
    go_ret
    exact ⟨ret_bool F.out.symm, B1.out⟩

theorem specCertEntry (n : Bool) (p q : Int) (a1 a2 : Option Addr) (c1 c2 : Nat) (xs ys : List P2) (v k : Int) (w : World) (h1 : Sl w a1 xs) (h2 : Sl w a2 ys) (n1 : xs.length ≤ 2 ^ 40) (n2 : ys.length ≤ 2 ^ 40) (hc1 : xs.length ≤ c1) (hc2 : ys.length ≤ c2) :
    Calls Try.prog 99 #[.agg #[.bool n, .int .i64 p, .int .i64 q, .slice a1 xs.length c1, .slice a2 ys.length c2, .int .i64 v, .int .i64 k]] w fun e w' => e = .returned (.bool (entOk n p q xs ys v k)) ∧ Below w.heap.size w w' := by
  cases n with
  | false => exact specCertEntryRun p q a1 a2 c1 c2 xs ys v k w h1 h2 n1 n2 hc1 hc2
  | true => exact specCertEntryNone p q a1 a2 c1 c2 xs ys v k w h1 h2 n1 n2
end Go.Proofs.Ytfifiobcmdmefaa.Own

namespace Go.Proofs.Ytfifiobcmdmefaa.Own
open Go.RowKit
set_option linter.unusedVariables false
set_option linter.unusedSimpArgs false

theorem noneE_none (p q : Int) (xs ys : List P2) (v k : Int) : noneE ⟨true, p, q, xs, ys, v, k⟩ = false := by simp [noneE, likeE]
theorem noneE_req {p q : Int} (n : Bool) (xs ys : List P2) (v k : Int) (h : eq2 (p, q) (0, 0) = false) : noneE ⟨n, p, q, xs, ys, v, k⟩ = false := by simp [noneE, likeE, h]
theorem noneE_run {p q : Int} (xs ys : List P2) (v k : Int) (h : eq2 (p, q) (0, 0) = true) : noneE ⟨false, p, q, xs, ys, v, k⟩ = sameRun xs ys [] [] v k 0 0 := by simp [noneE, likeE, h]

set_option maxRecDepth 100000 in
set_option maxHeartbeats 2000000 in
theorem specVote (m : Int) (n : Bool) (p q : Int) (a1 a2 : Option Addr) (c1 c2 : Nat) (xs ys : List P2) (v k : Int) (w : World) (h1 : Sl w a1 xs) (h2 : Sl w a2 ys) (n1 : xs.length ≤ 2 ^ 40) (n2 : ys.length ≤ 2 ^ 40) (hc1 : xs.length ≤ c1) (hc2 : ys.length ≤ c2) :
    Calls Try.prog 104 #[.agg #[.int .i64 m, .bool n, .int .i64 p, .int .i64 q, .slice a1 xs.length c1, .slice a2 ys.length c2, .int .i64 v, .int .i64 k]] w fun e w' => e = .returned (.bool (voteOk (m, ⟨n, p, q, xs, ys, v, k⟩))) ∧ Below w.heap.size w w' := by
  have H1 : Hid (Sl w a1 xs) := h1
  have H2 : Hid (Sl w a2 ys) := h2
  clear h1 h2
  obtain ⟨W, hW⟩ : ∃ W, W = w.alloc (.cells #[.int .i64 m, .bool n, .int .i64 p, .int .i64 q, .slice a1 xs.length c1, .slice a2 ys.length c2, .int .i64 v, .int .i64 k] 42) := ⟨_, rfl⟩
  have BW : Hid (Below w.heap.size w W) := by show Below _ _ _; rw [hW]; exact (Below.refl _ _).alloc (Nat.le_refl _) _
  have G0 : Hid (Blk W w.heap.size #[.int .i64 m, .bool n, .int .i64 p, .int .i64 q, .slice a1 xs.length c1, .slice a2 ys.length c2, .int .i64 v, .int .i64 k] 42) := by show Blk _ _ _ _; rw [hW]; exact Blk.new _ _ _
  have HW : Hid (W = _) := hW
  clear hW
  by_cases hm : m = 0
  · have E : Hid (voteOk (m, ⟨n, p, q, xs, ys, v, k⟩) = noneE ⟨n, p, q, xs, ys, v, k⟩) := by show _ = _; simp [voteOk, hm]
    have k0 : (m == 0) = true := by simpa using hm
    clear hm
    generalize voteOk (m, ⟨n, p, q, xs, ys, v, k⟩) = T at E ⊢
    have hq := fun w => eqlReq p q 0 0 w
    cases n with
    | true =>
      have F : Hid (T = false) := by show _ = _; rw [E.out, noneE_none]
      clear E
      go_enter Try.func104, Try.ntmps104
      go_wp2_with fail
      go_ret
      exact ⟨ret_bool F.out.symm, by rw [← HW.out]; exact BW.out⟩
    | false =>
      cases he : eq2 (p, q) (0, 0) with
      | false =>
        have F : Hid (T = false) := by show _ = _; rw [E.out, noneE_req _ _ _ _ _ he]
        clear E
        rw [he] at hq
        go_enter Try.func104, Try.ntmps104
        go_wp2_with fail
        go_ret
        exact ⟨ret_bool F.out.symm, by rw [← HW.out]; exact BW.out⟩
      | true =>
        have F : Hid (T = sameRun xs ys [] [] v k 0 0) := by show _ = _; rw [E.out, noneE_run _ _ _ _ he]
        clear E
        rw [he] at hq
        go_enter Try.func104, Try.ntmps104
        go_wp2_with fail
        rw [← HW.out]
        refine (specExecSame a1 a2 none none c1 c2 0 0 xs ys [] [] v k 0 0 W (H1.out.below BW.out) (H2.out.below BW.out) (.inl rfl) (.inl rfl) n1 n2 (by simp) (by simp)).mono ?_
        rintro e w1 ⟨rfl, b1'⟩
        have B1 : Hid (Below w.heap.size w w1) := BW.out.trans (b1'.mono BW.out.size)
        clear b1'
        generalize sameRun xs ys [] [] v k 0 0 = r at F ⊢
        go_wp2_with fail
        go_ret
        exact ⟨ret_bool F.out.symm, B1.out⟩
  · have E : Hid (voteOk (m, ⟨n, p, q, xs, ys, v, k⟩) = (isBal m && entOk n p q xs ys v k)) := by show _ = _; simp [voteOk, hm, rightE]
    have k0 : (m == 0) = false := by simpa using hm
    clear hm
    generalize voteOk (m, ⟨n, p, q, xs, ys, v, k⟩) = T at E ⊢
    go_enter Try.func104, Try.ntmps104
    go_wp2_with fail
    rw [← HW.out]
    refine (specBal m W).mono ?_
    rintro e w1 ⟨rfl, rfl⟩
    obtain ⟨q0, q1, q2, q3, q4, q5, q6, q7⟩ := G0.out.cells8
    generalize isBal m = r at E ⊢
    cases r with
    | false =>
      have F : Hid (T = false) := by show _ = _; rw [E.out]; rfl
      go_wp2_with fail
      go_ret
      exact ⟨ret_bool F.out.symm, BW.out⟩
    | true =>
      go_wp2_with fail
      refine (specCertEntry n p q a1 a2 c1 c2 xs ys v k w1 (H1.out.below BW.out) (H2.out.below BW.out) n1 n2 hc1 hc2).mono ?_
      rintro e w2 ⟨rfl, b2⟩
      have B2 : Hid (Below w.heap.size w w2) := BW.out.trans (b2.mono BW.out.size)
      clear b2 q0 q1 q2 q3 q4 q5 q6 q7
      generalize entOk n p q xs ys v k = r2 at E ⊢
      have F : Hid (T = r2) := by show _ = _; rw [E.out]; rfl
      go_wp2_with fail
      go_ret
      exact ⟨ret_bool F.out.symm, B2.out⟩
end Go.Proofs.Ytfifiobcmdmefaa.Own

namespace Go.Proofs.Ytfifiobcmdmefaa.Own
open Go.RowKit Go.Sort
set_option linter.unusedVariables false
set_option linter.unusedSimpArgs false

set_option maxRecDepth 100000 in
set_option maxHeartbeats 2000000 in
theorem specVotes (a : Option Addr) (c : Nat) (vs : List VM) (w : World) (h : SlV w a vs) (hn : vs.length ≤ 2 ^ 40) (hl : VLs vs) :
    Calls Try.prog 60 #[.slice a vs.length c] w fun e w' => e = .returned (.bool (votesOk (bodies vs))) ∧ Below w.heap.size w w' := by
  have HS : Hid (SlV w a vs) := h
  have HL : Hid (VLs vs) := hl
  clear h hl
  have E1 : Hid (40 < vs.length → votesOk (bodies vs) = false) := fun h => by unfold votesOk; rw [bodies_len]; simp; intro h2; omega
  have E2 : Hid (∀ i, i < vs.length → voteOk (vs.getD i v0).body = false → votesOk (bodies vs) = false) := fun i hi h => by
    unfold votesOk
    rw [allV_not (0, e0) (i := i) (by rw [bodies_len]; exact hi) (by rw [bodies_getD]; exact h), Bool.and_false]
  have E3 : Hid (vs.length ≤ 40 → (∀ i, i < vs.length → voteOk (vs.getD i v0).body = true) → votesOk (bodies vs) = true) := fun h h2 => by
    unfold votesOk
    rw [bodies_len, allV_at (0, e0) (fun i hi => by rw [bodies_getD]; exact h2 i (by rw [bodies_len] at hi; exact hi))]
    simp [h]
  generalize votesOk (bodies vs) = T at E1 E2 E3 ⊢
  by_cases h40 : 40 < vs.length
  · have F : Hid (T = false) := E1.out h40
    have hi : (vs.length : Int) > 40 := by omega
    go_enter Try.func60, Try.ntmps60
    go_wp2_with fail
    go_ret
    exact ⟨ret_bool F.out.symm, Below.refl _ _⟩
  · have hi : ¬ (vs.length : Int) > 40 := by omega
    go_enter Try.func60, Try.ntmps60
    go_wp2_with fail
    go_loopw [3] (fun i wr => ∃ k : Nat, k ≤ vs.length ∧ i = .int .i64 k ∧ Hid (∀ j, j < k → voteOk (vs.getD j v0).body = true) ∧ Hid (Below w.heap.size w wr)) (fun i _ => vs.length - (intOf i).toNat)
    case atStart => exact ⟨0, Nat.zero_le _, rfl, fun j hj => by omega, Below.refl _ _⟩
    case round =>
      obtain ⟨k, hk, rfl, HA, KB⟩ := hrel
      by_cases hlt : k < vs.length
      · have hki : (k : Int) < (vs.length : Int) := by omega
        rcases HS.out.below KB.out with hh | ⟨b, off, rfl, _, hh⟩
        · rw [hh] at hlt; simp at hlt
        obtain ⟨⟨d0, d1, d2, d3, d4, d5, d6, d7⟩, s1, s2⟩ := hh k hlt
        have NX : Hid (∀ y, voteOk (vs.getD k v0).body = y → (y = false → T = false) ∧ (y = true → ∀ j, j < k + 1 → voteOk (vs.getD j v0).body = true)) := fun y hy => ⟨fun h => E2.out k hlt (by rw [hy, h]), fun h j hj => by
          by_cases e : j = k
          · subst e; rw [hy, h]
          · exact HA.out j (by omega)⟩
        have LX := HL.out k hlt
        have SX : Hid (Sl wr (vs.getD k v0).a1 (vs.getD k v0).b.xs ∧ Sl wr (vs.getD k v0).a2 (vs.getD k v0).b.ys) := ⟨s1, s2⟩
        clear hh s1 s2
        obtain ⟨x, hx⟩ : ∃ x, x = vs.getD k v0 := ⟨_, rfl⟩
        rw [← hx] at d0 d1 d2 d3 d4 d5 d6 d7 LX SX
        have NX2 : Hid (∀ y, voteOk x.body = y → (y = false → T = false) ∧ (y = true → ∀ j, j < k + 1 → voteOk (vs.getD j v0).body = true)) := fun y hy => NX.out y (by rw [← hx]; exact hy)
        clear NX hx
        obtain ⟨xbal, ⟨xn, xp, xq, xxs, xys, xv, xk⟩, xa1, xc1, xa2, xc2⟩ := x
        simp only [VM.body] at d0 d1 d2 d3 d4 d5 d6 d7 LX SX NX2
        go_wp2_with fail
        refine (specVote xbal xn xp xq xa1 xa2 xc1 xc2 xxs xys xv xk wr SX.out.1 SX.out.2 LX.1 LX.2.1 LX.2.2.1 LX.2.2.2).mono ?_
        rintro e w1 ⟨rfl, hw⟩
        have B1 : Hid (Below w.heap.size w w1) := KB.out.trans (hw.mono KB.out.size)
        have N3 := NX2.out _ rfl
        clear hw NX2 d0 d1 d2 d3 d4 d5 d6 d7
        generalize voteOk (xbal, ⟨xn, xp, xq, xxs, xys, xv, xk⟩) = y at N3 ⊢
        cases y with
        | false =>
          have F : Hid (T = false) := N3.1 rfl
          clear N3
          go_wp2_with fail
          go_ret
          exact ⟨ret_bool F.out.symm, B1.out⟩
        | true =>
          have F : Hid (∀ j, j < k + 1 → voteOk (vs.getD j v0).body = true) := N3.2 rfl
          clear N3
          go_wp2_with fail
          go_roundw
          case rel => exact ⟨k + 1, by omega, by go_num, F.out, B1.out⟩
          case measure => simp [intOf]; omega
      · have hki : ¬ (k : Int) < (vs.length : Int) := by omega
        have F : Hid (T = true) := E3.out (by omega) (fun i hi => HA.out i (by omega))
        go_wp2_with fail
        go_ret
        exact ⟨ret_bool F.out.symm, KB.out⟩
end Go.Proofs.Ytfifiobcmdmefaa.Own
