/-
  Own text: laws.markState and heldState at a state that a call made.
-/
import Derived.Test.YtgcencilgpilaaaMarkD
import Derived.Test.YtgcencilgpilaaaHeldD
import Derived.Test.YtgcencilgpilaaaMarkB
import Derived.Test.YtgcencilgpilaaaOwnD
import Derived.Test.YtgcencilgpilaaaBlk
namespace Go.Proofs.Ytgcencilgpilaaa.Own
open Go.RowKit
set_option linter.unusedVariables false

theorem markDoneB (a : Option Addr) (c n B : Nat) (xs : List Q4) (k : Int) (w : World) (h : OwnD w B a xs) (hl : xs.length = n) (hn : n ≤ 2 ^ 40) (hk0 : 0 ≤ k) (hk : k ≤ 2 ^ 40) :
    Calls Try.prog 101 #[.slice a n c, .int .i64 k] w fun e w' => e = .returned (.int .i64 (k + 4 * n)) ∧ OwnD w' B a (marks4 k n) ∧ OnlyD a xs w w' := by
  subst hl
  rcases h with h | ⟨g, rfl, hB, h, hf⟩
  · subst h
    refine (markDoneS0 a c k w).mono ?_
    rintro e w' ⟨rfl, rfl⟩
    exact ⟨by simp, .inl rfl, .inl ⟨rfl, rfl⟩⟩
  · by_cases h0 : xs = []
    · subst h0
      refine (markDoneS0 _ c k w).mono ?_
      rintro e w' ⟨rfl, rfl⟩
      exact ⟨by simp, .inl rfl, .inl ⟨rfl, rfl⟩⟩
    refine (markDoneS g 0 xs.length c k w hn hk0 hk hf ?_ h.1).mono ?_
    · intro i hi
      have := h.2 (i / 4) (by omega)
      have hm : i % 4 = 0 ∨ i % 4 = 1 ∨ i % 4 = 2 ∨ i % 4 = 3 := by omega
      rcases hm with m | m | m | m
      · exact ⟨_, by rw [show 0 + i = 0 + i / 4 * 4 by omega]; exact this.1, rfl⟩
      · exact ⟨_, by rw [show 0 + i = 0 + i / 4 * 4 + 1 by omega]; exact this.2.1, rfl⟩
      · exact ⟨_, by rw [show 0 + i = 0 + i / 4 * 4 + 2 by omega]; exact this.2.2.1, rfl⟩
      · exact ⟨_, by rw [show 0 + i = 0 + i / 4 * 4 + 3 by omega]; exact this.2.2.2, rfl⟩
    · rintro e w' ⟨rfl, hm, ho⟩
      exact ⟨rfl, .inr ⟨g, rfl, hB, hm, fun o => by rw [ho.frozen]; exact hf o⟩, .inr ⟨g, h0, rfl, ho⟩⟩
theorem heldDoneB (a : Option Addr) (c n B : Nat) (k : Int) (w : World) (h : OwnD w B a (marks4 k n)) (hn : n ≤ 2 ^ 40) (hk0 : 0 ≤ k) (hk : k ≤ 2 ^ 40) :
    Calls Try.prog 102 #[.slice a n c, .int .i64 k] w fun e w' => e = .returned (.int .i64 (k + 4 * n)) ∧ w' = w := by
  by_cases h0 : n = 0
  · subst h0
    refine (heldDoneS0 a c k w).mono ?_
    rintro e w' ⟨rfl, rfl⟩
    exact ⟨by simp, rfl⟩
  rcases h with h | ⟨g, rfl, hB, h, hf⟩
  · have := marks4_length k n
    rw [h] at this
    simp at this
    omega
  · exact heldDoneS g 0 n c k w hn hk0 hk h

theorem Blk.turned {L : List Nat} {w w' : World} {b : Nat} {C : Array Value} {t : TypeId} (h : Blk w b C t) (ht : Turned L w w') (hb : b ∉ L) : Blk w' b C t := by
  unfold Blk; rw [ht.block _ h.lt hb]; exact h

set_option maxRecDepth 100000 in
set_option maxHeartbeats 1000000 in
theorem markStB (z : Int) (a1 a2 : Option Addr) (n1 n2 c1 c2 B : Nat) (bs : List (Int × Int)) (ds : List Q4) (k : Int) (L : List Nat) (w : World) (h : StB bs ds B w a1 a2) (l1 : bs.length = n1) (l2 : ds.length = n2) (m1 : n1 ≤ 2 ^ 30) (m2 : n2 ≤ 2 ^ 30) (hk0 : 0 ≤ k) (hk : k ≤ 2 ^ 30)
    (hL1 : ∀ x, a1 = some x → x.block ∈ L) (hL2 : ∀ x, a2 = some x → x.block ∈ L) :
    Calls Try.prog 47 #[.agg #[.int .i64 z, .slice a1 n1 c1, .slice a2 n2 c2], .int .i64 k] w fun e w' => e = .returned (.int .i64 (k + 2 * n1 + 4 * n2)) ∧ StB (marks k n1) (marks4 (k + 2 * n1) n2) B w' a1 a2 ∧ Turned L w w' := by
  have H : Hid (StB bs ds B w a1 a2) := h
  have HL1 : Hid (∀ x, a1 = some x → x.block ∈ L) := hL1
  have HL2 : Hid (∀ x, a2 = some x → x.block ∈ L) := hL2
  have N1 : Hid (bs.length = n1) := l1
  have N2 : Hid (ds.length = n2) := l2
  clear h hL1 hL2 l1 l2
  obtain ⟨W, hW⟩ : ∃ W, W = w.alloc (.cells #[.int .i64 z, .slice a1 n1 c1, .slice a2 n2 c2] 70) := ⟨_, rfl⟩
  have BW : Hid (Below w.heap.size w W) := by show Below _ _ _; rw [hW]; exact below_new _ _
  have P0 : Hid (Blk W w.heap.size #[.int .i64 z, .slice a1 n1 c1, .slice a2 n2 c2] 70) := by show Blk _ _ _ _; rw [hW]; exact Blk.new _ _ _
  have HW : Hid (W = _) := hW
  clear hW
  have T1 : Hid (∀ w1, OnlyB a1 bs W w1 → ∃ L', Turned L' W w1 ∧ w.heap.size ∉ L' ∧ (∀ g, a2 = some ⟨g, 0, none⟩ → g ∉ L')) := by
    intro w1 ho
    rcases ho with ⟨_, rfl⟩ | ⟨g, hne, e, ho⟩
    · exact ⟨[], Turned.refl _ _, by simp, by simp⟩
    · refine ⟨[g], Turned.ofOnly ho (by simp), ?_, fun g' e' => ?_⟩
      · have := (H.out.far1 _ e).2
        simp at this ⊢; omega
      · have := H.out.apart g g' e e'
        simp; omega
  go_enter Try.func47, Try.ntmps47
  go_wp2_with fail
  rw [← HW.out]
  refine (markBoxB a1 c1 n1 B bs k W (H.out.boxes.below BW.out) N1.out (by omega) hk0 (by omega)).mono ?_
  rintro e w1 ⟨rfl, o1, t1⟩
  obtain ⟨L', u1, u2, u3⟩ := T1.out w1 t1
  have O1 : Hid (OwnB w1 B a1 (marks k n1)) := o1
  have O2 : Hid (OwnD w1 B a2 ds) := (H.out.dones.below BW.out).turned u1 u3
  have T2 : Hid (Turned L w w1) := (Turned.ofBelow BW.out).trans (Turned.ofOnlyB t1 fun g e => HL1.out _ e)
  obtain ⟨q0, q1, q2⟩ := (P0.out.turned u1 u2).cells3
  clear o1 t1 u1 u2 u3
  go_wp2_with fail
  refine (markDoneB a2 c2 n2 B ds (k + 2 * n1) w1 O2.out N2.out (by omega) (by omega) (by omega)).mono ?_
  rintro e w2 ⟨rfl, o2, t2⟩
  have T3 : Hid (Turned L w w2) := T2.out.trans (Turned.ofOnlyD t2 fun g e => HL2.out _ e)
  have O4 : Hid (OwnB w2 B a1 (marks k n1)) := by
    rcases t2 with ⟨_, rfl⟩ | ⟨g, hne, e, ho⟩
    · exact O1.out
    · exact O1.out.turned (Turned.ofOnly (L := [g]) ho (by simp)) fun g' e' => by have := H.out.apart g' g e' e; simp; omega
  have FIN : Hid (StB (marks k n1) (marks4 (k + 2 * n1) n2) B w2 a1 a2) := ⟨O4.out, o2, H.out.apart, fun x e => ⟨(H.out.far1 x e).1, Nat.lt_of_lt_of_le (H.out.far1 x e).2 T3.out.size⟩, fun x e => ⟨(H.out.far2 x e).1, Nat.lt_of_lt_of_le (H.out.far2 x e).2 T3.out.size⟩⟩
  clear o2 t2 q0 q1 q2
  go_wp2_with fail
  go_ret
  exact ⟨rfl, FIN.out, T3.out⟩

set_option maxRecDepth 100000 in
set_option maxHeartbeats 1000000 in
theorem heldStB (z : Int) (a1 a2 : Option Addr) (n1 n2 c1 c2 B : Nat) (k : Int) (w : World) (h : StB (marks k n1) (marks4 (k + 2 * n1) n2) B w a1 a2) (m1 : n1 ≤ 2 ^ 30) (m2 : n2 ≤ 2 ^ 30) (hk0 : 0 ≤ k) (hk : k ≤ 2 ^ 30) :
    Calls Try.prog 48 #[.agg #[.int .i64 z, .slice a1 n1 c1, .slice a2 n2 c2], .int .i64 k] w fun e w' => e = .returned (.int .i64 (k + 2 * n1 + 4 * n2)) ∧ Below w.heap.size w w' := by
  have H : Hid (StB (marks k n1) (marks4 (k + 2 * n1) n2) B w a1 a2) := h
  clear h
  obtain ⟨W, hW⟩ : ∃ W, W = w.alloc (.cells #[.int .i64 z, .slice a1 n1 c1, .slice a2 n2 c2] 70) := ⟨_, rfl⟩
  have BW : Hid (Below w.heap.size w W) := by show Below _ _ _; rw [hW]; exact below_new _ _
  have P0 : Hid (Blk W w.heap.size #[.int .i64 z, .slice a1 n1 c1, .slice a2 n2 c2] 70) := by show Blk _ _ _ _; rw [hW]; exact Blk.new _ _ _
  have HW : Hid (W = _) := hW
  clear hW
  obtain ⟨q0, q1, q2⟩ := P0.out.cells3
  have p1 : ¬ k + 2 * (n1 : Int) < 0 := by omega
  have p2 : ¬ k + 2 * (n1 : Int) + 4 * (n2 : Int) < 0 := by omega
  go_enter Try.func48, Try.ntmps48
  go_wp2_with fail
  rw [← HW.out]
  refine (heldBoxB a1 c1 n1 B k W (H.out.boxes.below BW.out) (by omega) hk0 (by omega)).mono ?_
  rintro e w1 ⟨rfl, hw⟩
  subst hw
  go_wp2_with fail
  refine (heldDoneB a2 c2 n2 B (k + 2 * n1) w1 (H.out.dones.below BW.out) (by omega) (by omega) (by omega)).mono ?_
  rintro e w2 ⟨rfl, hw⟩
  subst hw
  go_wp2_with fail
  go_ret
  exact ⟨rfl, BW.out⟩
end Go.Proofs.Ytgcencilgpilaaa.Own
