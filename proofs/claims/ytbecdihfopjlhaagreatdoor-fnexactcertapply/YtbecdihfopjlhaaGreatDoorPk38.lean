/-
  Own texts, bundled: MarkD, HeldD, MarkB, MarkSt, MarkRm.
-/
import Derived.Test.YtbecdihfopjlhaaGreatDoorPk2
import Derived.Test.YtbecdihfopjlhaaGreatDoorPk8
import Derived.Test.YtbecdihfopjlhaaGreatDoorPk1
namespace Go.Proofs.YtbecdihfopjlhaaGreatDoor.Own
open Go.RowKit

set_option maxHeartbeats 1000000 in
theorem markDoneS (b off n c : Nat) (k : Int) (w : World) (hn : n ≤ 2 ^ 40) (hk0 : 0 ≤ k) (hk : k ≤ 2 ^ 40) (hfr : ∀ o, w.frozen? ⟨b, o, none⟩ = false) (hcell : ∀ i, i < 4 * n → ∃ v, w.cell? ⟨b, off + i, none⟩ = some v ∧ v.oneCell' = true) (hb : b < w.heap.size) :
    Calls Tryz.prog 67 #[.slice (some ⟨b, off, none⟩) n c, .int .i64 k] w fun e w' => e = .returned (.int .i64 (k + 4 * n)) ∧ At4 w' b off (marks4 k n) ∧ Only b w w' := by
  have HC : Hid (∀ i, i < 4 * n → ∃ v, w.cell? ⟨b, off + i, none⟩ = some v ∧ v.oneCell' = true) := hcell
  have HF : Hid (∀ o, w.frozen? ⟨b, o, none⟩ = false) := hfr
  clear hcell hfr
  go_enter Tryz.func67, Tryz.ntmps67
  go_wp2
  go_loopw [1, 5] (fun q i wr => ∃ j : Nat, j ≤ n ∧ i = .int .i64 j ∧ q = .int .i64 (k + 4 * j) ∧ At4 wr b off (marks4 k j) ∧ (∀ i, 4 * j ≤ i → wr.cell? ⟨b, off + i, none⟩ = w.cell? ⟨b, off + i, none⟩) ∧ Only b w wr) (fun _ i _ => n - (intOf i).toNat)
  case atStart => exact ⟨0, Nat.zero_le _, rfl, by simp, ⟨hb, by simp [marks4]⟩, fun _ _ => rfl, Only.refl _ _⟩
  case round =>
    obtain ⟨j, hj, rfl, rfl, hat, hrest, ho⟩ := hrel
    by_cases hlt : j < n
    · obtain ⟨v1, hv1, hv1'⟩ := HC.out (4 * j) (by omega)
      obtain ⟨v2, hv2, hv2'⟩ := HC.out (4 * j + 1) (by omega)
      obtain ⟨v3, hv3, hv3'⟩ := HC.out (4 * j + 2) (by omega)
      obtain ⟨v4, hv4, hv4'⟩ := HC.out (4 * j + 3) (by omega)
      have c1 : wr.cell? ⟨b, off + j * 4, none⟩ = some v1 := by rw [show off + j * 4 = off + 4 * j by omega, hrest _ (by omega)]; exact hv1
      have c2 : wr.cell? ⟨b, off + j * 4 + 1, none⟩ = some v2 := by rw [show off + j * 4 + 1 = off + (4 * j + 1) by omega, hrest _ (by omega)]; exact hv2
      have c3 : wr.cell? ⟨b, off + j * 4 + 2, none⟩ = some v3 := by rw [show off + j * 4 + 2 = off + (4 * j + 2) by omega, hrest _ (by omega)]; exact hv3
      have c4 : wr.cell? ⟨b, off + j * 4 + 3, none⟩ = some v4 := by rw [show off + j * 4 + 3 = off + (4 * j + 3) by omega, hrest _ (by omega)]; exact hv4
      have f1 : wr.frozen? ⟨b, off + j * 4, none⟩ = false := by rw [ho.frozen]; exact HF.out _
      have f2 : wr.frozen? ⟨b, off + j * 4 + 1, none⟩ = false := by rw [ho.frozen]; exact HF.out _
      have f3 : wr.frozen? ⟨b, off + j * 4 + 2, none⟩ = false := by rw [ho.frozen]; exact HF.out _
      have f4 : wr.frozen? ⟨b, off + j * 4 + 3, none⟩ = false := by rw [ho.frozen]; exact HF.out _
      have HR : Hid (∀ i, 4 * j ≤ i → wr.cell? ⟨b, off + i, none⟩ = w.cell? ⟨b, off + i, none⟩) := hrest
      have HA : Hid (At4 wr b off (marks4 k j)) := hat
      clear hrest hat hv1 hv2 hv3 hv4
      go_wp2
      go_roundw
      case rel =>
        refine ⟨j + 1, by omega, by go_num, ?_, ?_, ?_, (((ho.setCell _).setCell _).setCell _).setCell _⟩
        · go_num
        · refine ⟨by simpa [World.setCell] using HA.out.1, fun i hi => ?_⟩
          rw [marks4_length] at hi
          rw [marks4_getD _ _ _ hi]
          have P := put4 (.int .i64 (k + 4 * (j : Int))) (.int .i64 (k + 4 * (j : Int) + 1)) (.int .i64 (k + 4 * (j : Int) + 1 + 1)) (.int .i64 (k + 4 * (j : Int) + 1 + 1 + 1)) c1 c2 c3 c4
          by_cases e : i = j
          · subst e
            exact ⟨P.1, P.2.1, P.2.2.1, P.2.2.2.1⟩
          · have := HA.out.2 i (by rw [marks4_length]; omega)
            rw [marks4_getD _ _ _ (by omega)] at this
            rw [P.2.2.2.2 _ (by omega), P.2.2.2.2 _ (by omega), P.2.2.2.2 _ (by omega), P.2.2.2.2 _ (by omega)]
            exact this
        · intro i hi
          have P := put4 (.int .i64 (k + 4 * (j : Int))) (.int .i64 (k + 4 * (j : Int) + 1)) (.int .i64 (k + 4 * (j : Int) + 1 + 1)) (.int .i64 (k + 4 * (j : Int) + 1 + 1 + 1)) c1 c2 c3 c4
          rw [P.2.2.2.2 _ (by omega)]
          exact HR.out i (by omega)
      case measure => simp [intOf]; omega
    · go_wp2
      go_ret
      have : j = n := by omega
      subst this
      exact ⟨rfl, hat, ho⟩

/-- An empty slice, nil or not: nothing is marked. -/
theorem markDoneS0 (a : Option Addr) (c : Nat) (k : Int) (w : World) :
    Calls Tryz.prog 67 #[.slice a 0 c, .int .i64 k] w fun e w' => e = .returned (.int .i64 k) ∧ w' = w := by
  go_enter Tryz.func67, Tryz.ntmps67
  go_wp2
  go_loop [1, 5] (fun q i => i = .int .i64 0 ∧ q = .int .i64 k) (fun _ i => 0)
  case atStart => exact ⟨rfl, rfl⟩
  case round =>
    obtain ⟨rfl, rfl⟩ := hrel
    go_wp2
    go_ret
    exact ⟨rfl, rfl⟩

end Go.Proofs.YtbecdihfopjlhaaGreatDoor.Own

namespace Go.Proofs.YtbecdihfopjlhaaGreatDoor.Own
open Go.RowKit

set_option maxHeartbeats 1000000 in
theorem heldDoneS (b off n c : Nat) (k : Int) (w : World) (hn : n ≤ 2 ^ 40) (hk0 : 0 ≤ k) (hk : k ≤ 2 ^ 40) (hat : At4 w b off (marks4 k n)) :
    Calls Tryz.prog 70 #[.slice (some ⟨b, off, none⟩) n c, .int .i64 k] w fun e w' => e = .returned (.int .i64 (k + 4 * n)) ∧ w' = w := by
  have HA : Hid (At4 w b off (marks4 k n)) := hat
  clear hat
  go_enter Tryz.func70, Tryz.ntmps70
  go_wp2
  go_loop [1, 5] (fun q i => ∃ j : Nat, j ≤ n ∧ i = .int .i64 j ∧ q = .int .i64 (k + 4 * j)) (fun _ i => n - (intOf i).toNat)
  case atStart => exact ⟨0, Nat.zero_le _, rfl, by simp⟩
  case round =>
    obtain ⟨j, hj, rfl, rfl⟩ := hrel
    by_cases hlt : j < n
    · obtain ⟨c1, c2, c3, c4⟩ := HA.out.2 j (by rw [marks4_length]; exact hlt)
      rw [marks4_getD _ _ _ hlt] at c1 c2 c3 c4
      go_wp2
      go_round
      case rel => exact ⟨j + 1, by omega, by go_num, by go_num⟩
      case measure => simp [intOf]; omega
    · go_wp2
      go_ret
      have : j = n := by omega
      subst this
      exact ⟨rfl, rfl⟩

theorem heldDoneS0 (a : Option Addr) (c : Nat) (k : Int) (w : World) :
    Calls Tryz.prog 70 #[.slice a 0 c, .int .i64 k] w fun e w' => e = .returned (.int .i64 k) ∧ w' = w := by
  go_enter Tryz.func70, Tryz.ntmps70
  go_wp2
  go_loop [1, 5] (fun q i => i = .int .i64 0 ∧ q = .int .i64 k) (fun _ i => 0)
  case atStart => exact ⟨rfl, rfl⟩
  case round =>
    obtain ⟨rfl, rfl⟩ := hrel
    go_wp2
    go_ret
    exact ⟨rfl, rfl⟩
end Go.Proofs.YtbecdihfopjlhaaGreatDoor.Own

namespace Go.Proofs.YtbecdihfopjlhaaGreatDoor.Own
open Go.RowKit
set_option linter.unusedVariables false

set_option maxHeartbeats 1000000 in
theorem markBoxS0 (a : Option Addr) (c : Nat) (k : Int) (w : World) :
    Calls Tryz.prog 66 #[.slice a 0 c, .int .i64 k] w fun e w' => e = .returned (.int .i64 k) ∧ w' = w := by
  go_enter Tryz.func66, Tryz.ntmps66
  go_wp2
  go_loop [1, 5] (fun q i => i = .int .i64 0 ∧ q = .int .i64 k) (fun _ _ => 0)
  case atStart => exact ⟨rfl, rfl⟩
  case round =>
    obtain ⟨rfl, rfl⟩ := hrel
    go_wp2
    go_ret
    exact ⟨rfl, rfl⟩
set_option maxHeartbeats 1000000 in
theorem heldBoxS0 (a : Option Addr) (c : Nat) (k : Int) (w : World) :
    Calls Tryz.prog 69 #[.slice a 0 c, .int .i64 k] w fun e w' => e = .returned (.int .i64 k) ∧ w' = w := by
  go_enter Tryz.func69, Tryz.ntmps69
  go_wp2
  go_loop [1, 5] (fun q i => i = .int .i64 0 ∧ q = .int .i64 k) (fun _ _ => 0)
  case atStart => exact ⟨rfl, rfl⟩
  case round =>
    obtain ⟨rfl, rfl⟩ := hrel
    go_wp2
    go_ret
    exact ⟨rfl, rfl⟩

theorem markBoxB (a : Option Addr) (c n B : Nat) (xs : List (Int × Int)) (k : Int) (w : World) (h : OwnB w B a xs) (hl : xs.length = n) (hn : n ≤ 2 ^ 40) (hk0 : 0 ≤ k) (hk : k ≤ 2 ^ 40) :
    Calls Tryz.prog 66 #[.slice a n c, .int .i64 k] w fun e w' => e = .returned (.int .i64 (k + 2 * n)) ∧ OwnB w' B a (marks k n) ∧ OnlyB a xs w w' := by
  subst hl
  rcases h with h | ⟨g, rfl, hB, h, hf⟩
  · subst h
    refine (markBoxS0 a c k w).mono ?_
    rintro e w' ⟨rfl, rfl⟩
    exact ⟨by simp, .inl rfl, .inl ⟨rfl, rfl⟩⟩
  · by_cases h0 : xs = []
    · subst h0
      refine (markBoxS0 _ c k w).mono ?_
      rintro e w' ⟨rfl, rfl⟩
      exact ⟨by simp, .inl rfl, .inl ⟨rfl, rfl⟩⟩
    refine (markBoxS g 0 xs.length c k w hn hk0 hk hf ?_ h.1).mono ?_
    · intro i hi
      have := h.2 (i / 2) (by omega)
      rcases Nat.mod_two_eq_zero_or_one i with m | m
      · exact ⟨_, by rw [show 0 + i = 0 + i / 2 * 2 by omega]; exact this.1, rfl⟩
      · exact ⟨_, by rw [show 0 + i = 0 + i / 2 * 2 + 1 by omega]; exact this.2, rfl⟩
    · rintro e w' ⟨rfl, hm, ho⟩
      exact ⟨rfl, .inr ⟨g, rfl, hB, hm, fun o => by rw [ho.frozen]; exact hf o⟩, .inr ⟨g, h0, rfl, ho⟩⟩
theorem heldBoxB (a : Option Addr) (c n B : Nat) (k : Int) (w : World) (h : OwnB w B a (marks k n)) (hn : n ≤ 2 ^ 40) (hk0 : 0 ≤ k) (hk : k ≤ 2 ^ 40) :
    Calls Tryz.prog 69 #[.slice a n c, .int .i64 k] w fun e w' => e = .returned (.int .i64 (k + 2 * n)) ∧ w' = w := by
  by_cases h0 : n = 0
  · subst h0
    refine (heldBoxS0 a c k w).mono ?_
    rintro e w' ⟨rfl, rfl⟩
    exact ⟨by simp, rfl⟩
  rcases h with h | ⟨g, rfl, hB, h, hf⟩
  · have := marks_length k n
    rw [h] at this
    simp at this
    omega
  · exact heldBoxS g 0 n c k w hn hk0 hk h
end Go.Proofs.YtbecdihfopjlhaaGreatDoor.Own

namespace Go.Proofs.YtbecdihfopjlhaaGreatDoor.Own
open Go.RowKit
set_option linter.unusedVariables false

theorem markDoneB (a : Option Addr) (c n B : Nat) (xs : List Q4) (k : Int) (w : World) (h : OwnD w B a xs) (hl : xs.length = n) (hn : n ≤ 2 ^ 40) (hk0 : 0 ≤ k) (hk : k ≤ 2 ^ 40) :
    Calls Tryz.prog 67 #[.slice a n c, .int .i64 k] w fun e w' => e = .returned (.int .i64 (k + 4 * n)) ∧ OwnD w' B a (marks4 k n) ∧ OnlyD a xs w w' := by
  subst hl
  rcases h with h | ⟨g, rfl, hB, h, hf⟩
  · subst h
    refine (markDoneS0 a c k w).mono ?_
    rintro e w' ⟨rfl, rfl⟩
    exact ⟨by simp, .inl rfl, .inl ⟨rfl, rfl⟩⟩
  · by_cases h0 : xs = []
    · subst h0
      refine (markDoneS0 _ c k w).mono ?_
      rintro e w' ⟨rfl, rfl⟩
      exact ⟨by simp, .inl rfl, .inl ⟨rfl, rfl⟩⟩
    refine (markDoneS g 0 xs.length c k w hn hk0 hk hf ?_ h.1).mono ?_
    · intro i hi
      have := h.2 (i / 4) (by omega)
      have hm : i % 4 = 0 ∨ i % 4 = 1 ∨ i % 4 = 2 ∨ i % 4 = 3 := by omega
      rcases hm with m | m | m | m
      · exact ⟨_, by rw [show 0 + i = 0 + i / 4 * 4 by omega]; exact this.1, rfl⟩
      · exact ⟨_, by rw [show 0 + i = 0 + i / 4 * 4 + 1 by omega]; exact this.2.1, rfl⟩
      · exact ⟨_, by rw [show 0 + i = 0 + i / 4 * 4 + 2 by omega]; exact this.2.2.1, rfl⟩
      · exact ⟨_, by rw [show 0 + i = 0 + i / 4 * 4 + 3 by omega]; exact this.2.2.2, rfl⟩
    · rintro e w' ⟨rfl, hm, ho⟩
      exact ⟨rfl, .inr ⟨g, rfl, hB, hm, fun o => by rw [ho.frozen]; exact hf o⟩, .inr ⟨g, h0, rfl, ho⟩⟩
theorem heldDoneB (a : Option Addr) (c n B : Nat) (k : Int) (w : World) (h : OwnD w B a (marks4 k n)) (hn : n ≤ 2 ^ 40) (hk0 : 0 ≤ k) (hk : k ≤ 2 ^ 40) :
    Calls Tryz.prog 70 #[.slice a n c, .int .i64 k] w fun e w' => e = .returned (.int .i64 (k + 4 * n)) ∧ w' = w := by
  by_cases h0 : n = 0
  · subst h0
    refine (heldDoneS0 a c k w).mono ?_
    rintro e w' ⟨rfl, rfl⟩
    exact ⟨by simp, rfl⟩
  rcases h with h | ⟨g, rfl, hB, h, hf⟩
  · have := marks4_length k n
    rw [h] at this
    simp at this
    omega
  · exact heldDoneS g 0 n c k w hn hk0 hk h

theorem Blk.turned {L : List Nat} {w w' : World} {b : Nat} {C : Array Value} {t : TypeId} (h : Blk w b C t) (ht : Turned L w w') (hb : b ∉ L) : Blk w' b C t := by
  unfold Blk; rw [ht.block _ h.lt hb]; exact h

set_option maxRecDepth 100000 in
set_option maxHeartbeats 1000000 in
theorem markStB (z : Int) (a1 a2 : Option Addr) (n1 n2 c1 c2 B : Nat) (bs : List (Int × Int)) (ds : List Q4) (k : Int) (L : List Nat) (w : World) (h : StB bs ds B w a1 a2) (l1 : bs.length = n1) (l2 : ds.length = n2) (m1 : n1 ≤ 2 ^ 30) (m2 : n2 ≤ 2 ^ 30) (hk0 : 0 ≤ k) (hk : k ≤ 2 ^ 30)
    (hL1 : ∀ x, a1 = some x → x.block ∈ L) (hL2 : ∀ x, a2 = some x → x.block ∈ L) :
    Calls Tryz.prog 24 #[.agg #[.int .i64 z, .slice a1 n1 c1, .slice a2 n2 c2], .int .i64 k] w fun e w' => e = .returned (.int .i64 (k + 2 * n1 + 4 * n2)) ∧ StB (marks k n1) (marks4 (k + 2 * n1) n2) B w' a1 a2 ∧ Turned L w w' := by
  have H : Hid (StB bs ds B w a1 a2) := h
  have HL1 : Hid (∀ x, a1 = some x → x.block ∈ L) := hL1
  have HL2 : Hid (∀ x, a2 = some x → x.block ∈ L) := hL2
  have N1 : Hid (bs.length = n1) := l1
  have N2 : Hid (ds.length = n2) := l2
  clear h hL1 hL2 l1 l2
  obtain ⟨W, hW⟩ : ∃ W, W = w.alloc (.cells #[.int .i64 z, .slice a1 n1 c1, .slice a2 n2 c2] 28) := ⟨_, rfl⟩
  have BW : Hid (Below w.heap.size w W) := by show Below _ _ _; rw [hW]; exact below_new _ _
  have P0 : Hid (Blk W w.heap.size #[.int .i64 z, .slice a1 n1 c1, .slice a2 n2 c2] 28) := by show Blk _ _ _ _; rw [hW]; exact Blk.new _ _ _
  have HW : Hid (W = _) := hW
  clear hW
  have T1 : Hid (∀ w1, OnlyB a1 bs W w1 → ∃ L', Turned L' W w1 ∧ w.heap.size ∉ L' ∧ (∀ g, a2 = some ⟨g, 0, none⟩ → g ∉ L')) := by
    intro w1 ho
    rcases ho with ⟨_, rfl⟩ | ⟨g, hne, e, ho⟩
    · exact ⟨[], Turned.refl _ _, by simp, by simp⟩
    · refine ⟨[g], Turned.ofOnly ho (by simp), ?_, fun g' e' => ?_⟩
      · have := (H.out.far1 _ e).2
        simp at this ⊢; omega
      · have := H.out.apart g g' e e'
        simp; omega
  go_enter Tryz.func24, Tryz.ntmps24
  go_wp2_with fail
  rw [← HW.out]
  refine (markBoxB a1 c1 n1 B bs k W (H.out.boxes.below BW.out) N1.out (by omega) hk0 (by omega)).mono ?_
  rintro e w1 ⟨rfl, o1, t1⟩
  obtain ⟨L', u1, u2, u3⟩ := T1.out w1 t1
  have O1 : Hid (OwnB w1 B a1 (marks k n1)) := o1
  have O2 : Hid (OwnD w1 B a2 ds) := (H.out.dones.below BW.out).turned u1 u3
  have T2 : Hid (Turned L w w1) := (Turned.ofBelow BW.out).trans (Turned.ofOnlyB t1 fun g e => HL1.out _ e)
  obtain ⟨q0, q1, q2⟩ := (P0.out.turned u1 u2).cells3
  clear o1 t1 u1 u2 u3
  go_wp2_with fail
  refine (markDoneB a2 c2 n2 B ds (k + 2 * n1) w1 O2.out N2.out (by omega) (by omega) (by omega)).mono ?_
  rintro e w2 ⟨rfl, o2, t2⟩
  have T3 : Hid (Turned L w w2) := T2.out.trans (Turned.ofOnlyD t2 fun g e => HL2.out _ e)
  have O4 : Hid (OwnB w2 B a1 (marks k n1)) := by
    rcases t2 with ⟨_, rfl⟩ | ⟨g, hne, e, ho⟩
    · exact O1.out
    · exact O1.out.turned (Turned.ofOnly (L := [g]) ho (by simp)) fun g' e' => by have := H.out.apart g' g e' e; simp; omega
  have FIN : Hid (StB (marks k n1) (marks4 (k + 2 * n1) n2) B w2 a1 a2) := ⟨O4.out, o2, H.out.apart, fun x e => ⟨(H.out.far1 x e).1, Nat.lt_of_lt_of_le (H.out.far1 x e).2 T3.out.size⟩, fun x e => ⟨(H.out.far2 x e).1, Nat.lt_of_lt_of_le (H.out.far2 x e).2 T3.out.size⟩⟩
  clear o2 t2 q0 q1 q2
  go_wp2_with fail
  go_ret
  exact ⟨rfl, FIN.out, T3.out⟩

set_option maxRecDepth 100000 in
set_option maxHeartbeats 1000000 in
theorem heldStB (z : Int) (a1 a2 : Option Addr) (n1 n2 c1 c2 B : Nat) (k : Int) (w : World) (h : StB (marks k n1) (marks4 (k + 2 * n1) n2) B w a1 a2) (m1 : n1 ≤ 2 ^ 30) (m2 : n2 ≤ 2 ^ 30) (hk0 : 0 ≤ k) (hk : k ≤ 2 ^ 30) :
    Calls Tryz.prog 26 #[.agg #[.int .i64 z, .slice a1 n1 c1, .slice a2 n2 c2], .int .i64 k] w fun e w' => e = .returned (.int .i64 (k + 2 * n1 + 4 * n2)) ∧ Below w.heap.size w w' := by
  have H : Hid (StB (marks k n1) (marks4 (k + 2 * n1) n2) B w a1 a2) := h
  clear h
  obtain ⟨W, hW⟩ : ∃ W, W = w.alloc (.cells #[.int .i64 z, .slice a1 n1 c1, .slice a2 n2 c2] 28) := ⟨_, rfl⟩
  have BW : Hid (Below w.heap.size w W) := by show Below _ _ _; rw [hW]; exact below_new _ _
  have P0 : Hid (Blk W w.heap.size #[.int .i64 z, .slice a1 n1 c1, .slice a2 n2 c2] 28) := by show Blk _ _ _ _; rw [hW]; exact Blk.new _ _ _
  have HW : Hid (W = _) := hW
  clear hW
  obtain ⟨q0, q1, q2⟩ := P0.out.cells3
  have p1 : ¬ k + 2 * (n1 : Int) < 0 := by omega
  have p2 : ¬ k + 2 * (n1 : Int) + 4 * (n2 : Int) < 0 := by omega
  go_enter Tryz.func26, Tryz.ntmps26
  go_wp2_with fail
  rw [← HW.out]
  refine (heldBoxB a1 c1 n1 B k W (H.out.boxes.below BW.out) (by omega) hk0 (by omega)).mono ?_
  rintro e w1 ⟨rfl, hw⟩
  subst hw
  go_wp2_with fail
  refine (heldDoneB a2 c2 n2 B (k + 2 * n1) w1 (H.out.dones.below BW.out) (by omega) (by omega) (by omega)).mono ?_
  rintro e w2 ⟨rfl, hw⟩
  subst hw
  go_wp2_with fail
  go_ret
  exact ⟨rfl, BW.out⟩
end Go.Proofs.YtbecdihfopjlhaaGreatDoor.Own

namespace Go.Proofs.YtbecdihfopjlhaaGreatDoor.Own
open Go.RowKit

set_option maxHeartbeats 1000000 in
theorem markReadS (b off n c : Nat) (k : Int) (w : World) (hn : n ≤ 2 ^ 40) (hk0 : 0 ≤ k) (hk : k ≤ 2 ^ 40) (hfr : ∀ o, w.frozen? ⟨b, o, none⟩ = false) (hcell : ∀ i, i < 2 * n → ∃ v, w.cell? ⟨b, off + i, none⟩ = some v ∧ v.oneCell' = true) (hb : b < w.heap.size) :
    Calls Tryz.prog 71 #[.slice (some ⟨b, off, none⟩) n c, .int .i64 k] w fun e w' => e = .returned (.int .i64 (k + 2 * n)) ∧ BoxAt w' b off (marks k n) ∧ Only b w w' := by
  have HC : Hid (∀ i, i < 2 * n → ∃ v, w.cell? ⟨b, off + i, none⟩ = some v ∧ v.oneCell' = true) := hcell
  have HF : Hid (∀ o, w.frozen? ⟨b, o, none⟩ = false) := hfr
  clear hcell hfr
  go_enter Tryz.func71, Tryz.ntmps71
  go_wp2
  go_loopw [1, 5] (fun q i wr => ∃ j : Nat, j ≤ n ∧ i = .int .i64 j ∧ q = .int .i64 (k + 2 * j) ∧ BoxAt wr b off (marks k j) ∧ (∀ i, 2 * j ≤ i → wr.cell? ⟨b, off + i, none⟩ = w.cell? ⟨b, off + i, none⟩) ∧ Only b w wr) (fun _ i _ => n - (intOf i).toNat)
  case atStart => exact ⟨0, Nat.zero_le _, rfl, by simp, ⟨hb, by simp [marks]⟩, fun _ _ => rfl, Only.refl _ _⟩
  case round =>
    obtain ⟨j, hj, rfl, rfl, hat, hrest, ho⟩ := hrel
    by_cases hlt : j < n
    · obtain ⟨v1, hv1, hv1'⟩ := HC.out (2 * j) (by omega)
      obtain ⟨v2, hv2, hv2'⟩ := HC.out (2 * j + 1) (by omega)
      have c1 : wr.cell? ⟨b, off + j * 2, none⟩ = some v1 := by rw [show off + j * 2 = off + 2 * j by omega, hrest _ (by omega)]; exact hv1
      have c2 : wr.cell? ⟨b, off + j * 2 + 1, none⟩ = some v2 := by rw [show off + j * 2 + 1 = off + (2 * j + 1) by omega, hrest _ (by omega)]; exact hv2
      have f1 : wr.frozen? ⟨b, off + j * 2, none⟩ = false := by rw [ho.frozen]; exact HF.out _
      have f2 : wr.frozen? ⟨b, off + j * 2 + 1, none⟩ = false := by rw [ho.frozen]; exact HF.out _
      have Hrest := hrest
      have HR : Hid (∀ i, 2 * j ≤ i → wr.cell? ⟨b, off + i, none⟩ = w.cell? ⟨b, off + i, none⟩) := Hrest
      have HA : Hid (BoxAt wr b off (marks k j)) := hat
      clear hrest Hrest hat hv1 hv2
      go_wp2
      go_roundw
      case rel =>
        refine ⟨j + 1, by omega, by go_num, ?_, ?_, ?_, (ho.setCell _).setCell _⟩
        · go_num
        · refine ⟨by simpa [World.setCell] using HA.out.1, fun i hi => ?_⟩
          rw [marks_length] at hi
          rw [marks_getD _ _ _ hi]
          by_cases e : i = j
          · subst e
            exact ⟨by rw [setCell_cell_other _ _ _ _ _ (by omega)]; exact setCell_cell_same _ _ _ _ _ c1, setCell_cell_same _ _ _ _ v2 (by rw [setCell_cell_other _ _ _ _ _ (by omega)]; exact c2)⟩
          · have := HA.out.2 i (by rw [marks_length]; omega)
            rw [marks_getD _ _ _ (by omega)] at this
            rw [setCell_cell_other _ _ _ _ _ (by omega), setCell_cell_other _ _ _ _ _ (by omega), setCell_cell_other _ _ _ _ _ (by omega), setCell_cell_other _ _ _ _ _ (by omega)]
            exact this
        · intro i hi
          rw [setCell_cell_other _ _ _ _ _ (by omega), setCell_cell_other _ _ _ _ _ (by omega)]
          exact HR.out i (by omega)
      case measure => simp [intOf]; omega
    · go_wp2
      go_ret
      have : j = n := by omega
      subst this
      exact ⟨rfl, hat, ho⟩

end Go.Proofs.YtbecdihfopjlhaaGreatDoor.Own
