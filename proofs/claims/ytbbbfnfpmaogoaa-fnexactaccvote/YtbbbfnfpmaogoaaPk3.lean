/-
  Own texts, bundled: MarkR, MarkBR, MarkP, MarkBP, MarkVote, Flat, CopyB, EntCopy, StepRow.
-/
import Derived.Test.YtbbbfnfpmaogoaaPk1
import Derived.Test.YtbbbfnfpmaogoaaPk2
import Derived.Deep.Cut
import Derived.OwnWalk
import Derived.Deep.Upon
import Derived.Deep.AppendLies
import Derived.Deep.RegionHeld
namespace Go.Proofs.Ytbbbfnfpmaogoaa.Own
open Go.RowKit

set_option maxHeartbeats 1000000 in
theorem markReadS (b off n c : Nat) (k : Int) (w : World) (hn : n ≤ 2 ^ 40) (hk0 : 0 ≤ k) (hk : k ≤ 2 ^ 40) (hfr : ∀ o, w.frozen? ⟨b, o, none⟩ = false) (hcell : ∀ i, i < 2 * n → ∃ v, w.cell? ⟨b, off + i, none⟩ = some v ∧ v.oneCell' = true) (hb : b < w.heap.size) :
    Calls Try.prog 91 #[.slice (some ⟨b, off, none⟩) n c, .int .i64 k] w fun e w' => e = .returned (.int .i64 (k + 2 * n)) ∧ BoxAt w' b off (marks k n) ∧ Only b w w' := by
  have HC : Hid (∀ i, i < 2 * n → ∃ v, w.cell? ⟨b, off + i, none⟩ = some v ∧ v.oneCell' = true) := hcell
  have HF : Hid (∀ o, w.frozen? ⟨b, o, none⟩ = false) := hfr
  clear hcell hfr
  go_enter Try.func91, Try.ntmps91
  go_wp2
  go_loopw [1, 5] (fun q i wr => ∃ j : Nat, j ≤ n ∧ i = .int .i64 j ∧ q = .int .i64 (k + 2 * j) ∧ BoxAt wr b off (marks k j) ∧ (∀ i, 2 * j ≤ i → wr.cell? ⟨b, off + i, none⟩ = w.cell? ⟨b, off + i, none⟩) ∧ Only b w wr) (fun _ i _ => n - (intOf i).toNat)
  case atStart => exact ⟨0, Nat.zero_le _, rfl, by simp, ⟨hb, by simp [marks]⟩, fun _ _ => rfl, Only.refl _ _⟩
  case round =>
    obtain ⟨j, hj, rfl, rfl, hat, hrest, ho⟩ := hrel
    by_cases hlt : j < n
    · obtain ⟨v1, hv1, hv1'⟩ := HC.out (2 * j) (by omega)
      obtain ⟨v2, hv2, hv2'⟩ := HC.out (2 * j + 1) (by omega)
      have c1 : wr.cell? ⟨b, off + j * 2, none⟩ = some v1 := by rw [show off + j * 2 = off + 2 * j by omega, hrest _ (by omega)]; exact hv1
      have c2 : wr.cell? ⟨b, off + j * 2 + 1, none⟩ = some v2 := by rw [show off + j * 2 + 1 = off + (2 * j + 1) by omega, hrest _ (by omega)]; exact hv2
      have f1 : wr.frozen? ⟨b, off + j * 2, none⟩ = false := by rw [ho.frozen]; exact HF.out _
      have f2 : wr.frozen? ⟨b, off + j * 2 + 1, none⟩ = false := by rw [ho.frozen]; exact HF.out _
      have Hrest := hrest
      have HR : Hid (∀ i, 2 * j ≤ i → wr.cell? ⟨b, off + i, none⟩ = w.cell? ⟨b, off + i, none⟩) := Hrest
      have HA : Hid (BoxAt wr b off (marks k j)) := hat
      clear hrest Hrest hat hv1 hv2
      go_wp2
      go_roundw
      case rel =>
        refine ⟨j + 1, by omega, by go_num, ?_, ?_, ?_, (ho.setCell _).setCell _⟩
        · go_num
        · refine ⟨by simpa [World.setCell] using HA.out.1, fun i hi => ?_⟩
          rw [marks_length] at hi
          rw [marks_getD _ _ _ hi]
          by_cases e : i = j
          · subst e
            exact ⟨by rw [setCell_cell_other _ _ _ _ _ (by omega)]; exact setCell_cell_same _ _ _ _ _ c1, setCell_cell_same _ _ _ _ v2 (by rw [setCell_cell_other _ _ _ _ _ (by omega)]; exact c2)⟩
          · have := HA.out.2 i (by rw [marks_length]; omega)
            rw [marks_getD _ _ _ (by omega)] at this
            rw [setCell_cell_other _ _ _ _ _ (by omega), setCell_cell_other _ _ _ _ _ (by omega), setCell_cell_other _ _ _ _ _ (by omega), setCell_cell_other _ _ _ _ _ (by omega)]
            exact this
        · intro i hi
          rw [setCell_cell_other _ _ _ _ _ (by omega), setCell_cell_other _ _ _ _ _ (by omega)]
          exact HR.out i (by omega)
      case measure => simp [intOf]; omega
    · go_wp2
      go_ret
      have : j = n := by omega
      subst this
      exact ⟨rfl, hat, ho⟩

set_option maxHeartbeats 1000000 in
theorem heldReadS (b off n c : Nat) (k : Int) (w : World) (hn : n ≤ 2 ^ 40) (hk0 : 0 ≤ k) (hk : k ≤ 2 ^ 40) (hat : BoxAt w b off (marks k n)) :
    Calls Try.prog 93 #[.slice (some ⟨b, off, none⟩) n c, .int .i64 k] w fun e w' => e = .returned (.int .i64 (k + 2 * n)) ∧ w' = w := by
  have HA : Hid (BoxAt w b off (marks k n)) := hat
  clear hat
  go_enter Try.func93, Try.ntmps93
  go_wp2
  go_loop [1, 5] (fun q i => ∃ j : Nat, j ≤ n ∧ i = .int .i64 j ∧ q = .int .i64 (k + 2 * j)) (fun _ i => n - (intOf i).toNat)
  case atStart => exact ⟨0, Nat.zero_le _, rfl, by simp⟩
  case round =>
    obtain ⟨j, hj, rfl, rfl⟩ := hrel
    by_cases hlt : j < n
    · obtain ⟨c1, c2⟩ := HA.out.2 j (by rw [marks_length]; exact hlt)
      rw [marks_getD _ _ _ hlt] at c1 c2
      go_wp2
      go_round
      case rel => exact ⟨j + 1, by omega, by go_num, by go_num⟩
      case measure => simp [intOf]; omega
    · go_wp2
      go_ret
      have : j = n := by omega
      subst this
      exact ⟨rfl, rfl⟩
end Go.Proofs.Ytbbbfnfpmaogoaa.Own

namespace Go.Proofs.Ytbbbfnfpmaogoaa.Own
open Go.RowKit
set_option linter.unusedVariables false

set_option maxHeartbeats 1000000 in
theorem markReadS0 (a : Option Addr) (c : Nat) (k : Int) (w : World) :
    Calls Try.prog 91 #[.slice a 0 c, .int .i64 k] w fun e w' => e = .returned (.int .i64 k) ∧ w' = w := by
  go_enter Try.func91, Try.ntmps91
  go_wp2
  go_loop [1, 5] (fun q i => i = .int .i64 0 ∧ q = .int .i64 k) (fun _ _ => 0)
  case atStart => exact ⟨rfl, rfl⟩
  case round =>
    obtain ⟨rfl, rfl⟩ := hrel
    go_wp2
    go_ret
    exact ⟨rfl, rfl⟩
set_option maxHeartbeats 1000000 in
theorem heldReadS0 (a : Option Addr) (c : Nat) (k : Int) (w : World) :
    Calls Try.prog 93 #[.slice a 0 c, .int .i64 k] w fun e w' => e = .returned (.int .i64 k) ∧ w' = w := by
  go_enter Try.func93, Try.ntmps93
  go_wp2
  go_loop [1, 5] (fun q i => i = .int .i64 0 ∧ q = .int .i64 k) (fun _ _ => 0)
  case atStart => exact ⟨rfl, rfl⟩
  case round =>
    obtain ⟨rfl, rfl⟩ := hrel
    go_wp2
    go_ret
    exact ⟨rfl, rfl⟩

theorem markReadB (a : Option Addr) (c n B : Nat) (xs : List (Int × Int)) (k : Int) (w : World) (h : OwnB w B a xs) (hl : xs.length = n) (hn : n ≤ 2 ^ 40) (hk0 : 0 ≤ k) (hk : k ≤ 2 ^ 40) :
    Calls Try.prog 91 #[.slice a n c, .int .i64 k] w fun e w' => e = .returned (.int .i64 (k + 2 * n)) ∧ OwnB w' B a (marks k n) ∧ OnlyB a xs w w' := by
  subst hl
  rcases h with h | ⟨g, rfl, hB, h, hf⟩
  · subst h
    refine (markReadS0 a c k w).mono ?_
    rintro e w' ⟨rfl, rfl⟩
    exact ⟨by simp, .inl rfl, .inl ⟨rfl, rfl⟩⟩
  · by_cases h0 : xs = []
    · subst h0
      refine (markReadS0 _ c k w).mono ?_
      rintro e w' ⟨rfl, rfl⟩
      exact ⟨by simp, .inl rfl, .inl ⟨rfl, rfl⟩⟩
    refine (markReadS g 0 xs.length c k w hn hk0 hk hf ?_ h.1).mono ?_
    · intro i hi
      have := h.2 (i / 2) (by omega)
      rcases Nat.mod_two_eq_zero_or_one i with m | m
      · exact ⟨_, by rw [show 0 + i = 0 + i / 2 * 2 by omega]; exact this.1, rfl⟩
      · exact ⟨_, by rw [show 0 + i = 0 + i / 2 * 2 + 1 by omega]; exact this.2, rfl⟩
    · rintro e w' ⟨rfl, hm, ho⟩
      exact ⟨rfl, .inr ⟨g, rfl, hB, hm, fun o => by rw [ho.frozen]; exact hf o⟩, .inr ⟨g, h0, rfl, ho⟩⟩
theorem heldReadB (a : Option Addr) (c n B : Nat) (k : Int) (w : World) (h : OwnB w B a (marks k n)) (hn : n ≤ 2 ^ 40) (hk0 : 0 ≤ k) (hk : k ≤ 2 ^ 40) :
    Calls Try.prog 93 #[.slice a n c, .int .i64 k] w fun e w' => e = .returned (.int .i64 (k + 2 * n)) ∧ w' = w := by
  by_cases h0 : n = 0
  · subst h0
    refine (heldReadS0 a c k w).mono ?_
    rintro e w' ⟨rfl, rfl⟩
    exact ⟨by simp, rfl⟩
  rcases h with h | ⟨g, rfl, hB, h, hf⟩
  · have := marks_length k n
    rw [h] at this
    simp at this
    omega
  · exact heldReadS g 0 n c k w hn hk0 hk h
end Go.Proofs.Ytbbbfnfpmaogoaa.Own

namespace Go.Proofs.Ytbbbfnfpmaogoaa.Own
open Go.RowKit

set_option maxHeartbeats 1000000 in
theorem markPutS (b off n c : Nat) (k : Int) (w : World) (hn : n ≤ 2 ^ 40) (hk0 : 0 ≤ k) (hk : k ≤ 2 ^ 40) (hfr : ∀ o, w.frozen? ⟨b, o, none⟩ = false) (hcell : ∀ i, i < 2 * n → ∃ v, w.cell? ⟨b, off + i, none⟩ = some v ∧ v.oneCell' = true) (hb : b < w.heap.size) :
    Calls Try.prog 92 #[.slice (some ⟨b, off, none⟩) n c, .int .i64 k] w fun e w' => e = .returned (.int .i64 (k + 2 * n)) ∧ BoxAt w' b off (marks k n) ∧ Only b w w' := by
  have HC : Hid (∀ i, i < 2 * n → ∃ v, w.cell? ⟨b, off + i, none⟩ = some v ∧ v.oneCell' = true) := hcell
  have HF : Hid (∀ o, w.frozen? ⟨b, o, none⟩ = false) := hfr
  clear hcell hfr
  go_enter Try.func92, Try.ntmps92
  go_wp2
  go_loopw [1, 5] (fun q i wr => ∃ j : Nat, j ≤ n ∧ i = .int .i64 j ∧ q = .int .i64 (k + 2 * j) ∧ BoxAt wr b off (marks k j) ∧ (∀ i, 2 * j ≤ i → wr.cell? ⟨b, off + i, none⟩ = w.cell? ⟨b, off + i, none⟩) ∧ Only b w wr) (fun _ i _ => n - (intOf i).toNat)
  case atStart => exact ⟨0, Nat.zero_le _, rfl, by simp, ⟨hb, by simp [marks]⟩, fun _ _ => rfl, Only.refl _ _⟩
  case round =>
    obtain ⟨j, hj, rfl, rfl, hat, hrest, ho⟩ := hrel
    by_cases hlt : j < n
    · obtain ⟨v1, hv1, hv1'⟩ := HC.out (2 * j) (by omega)
      obtain ⟨v2, hv2, hv2'⟩ := HC.out (2 * j + 1) (by omega)
      have c1 : wr.cell? ⟨b, off + j * 2, none⟩ = some v1 := by rw [show off + j * 2 = off + 2 * j by omega, hrest _ (by omega)]; exact hv1
      have c2 : wr.cell? ⟨b, off + j * 2 + 1, none⟩ = some v2 := by rw [show off + j * 2 + 1 = off + (2 * j + 1) by omega, hrest _ (by omega)]; exact hv2
      have f1 : wr.frozen? ⟨b, off + j * 2, none⟩ = false := by rw [ho.frozen]; exact HF.out _
      have f2 : wr.frozen? ⟨b, off + j * 2 + 1, none⟩ = false := by rw [ho.frozen]; exact HF.out _
      have Hrest := hrest
      have HR : Hid (∀ i, 2 * j ≤ i → wr.cell? ⟨b, off + i, none⟩ = w.cell? ⟨b, off + i, none⟩) := Hrest
      have HA : Hid (BoxAt wr b off (marks k j)) := hat
      clear hrest Hrest hat hv1 hv2
      go_wp2
      go_roundw
      case rel =>
        refine ⟨j + 1, by omega, by go_num, ?_, ?_, ?_, (ho.setCell _).setCell _⟩
        · go_num
        · refine ⟨by simpa [World.setCell] using HA.out.1, fun i hi => ?_⟩
          rw [marks_length] at hi
          rw [marks_getD _ _ _ hi]
          by_cases e : i = j
          · subst e
            exact ⟨by rw [setCell_cell_other _ _ _ _ _ (by omega)]; exact setCell_cell_same _ _ _ _ _ c1, setCell_cell_same _ _ _ _ v2 (by rw [setCell_cell_other _ _ _ _ _ (by omega)]; exact c2)⟩
          · have := HA.out.2 i (by rw [marks_length]; omega)
            rw [marks_getD _ _ _ (by omega)] at this
            rw [setCell_cell_other _ _ _ _ _ (by omega), setCell_cell_other _ _ _ _ _ (by omega), setCell_cell_other _ _ _ _ _ (by omega), setCell_cell_other _ _ _ _ _ (by omega)]
            exact this
        · intro i hi
          rw [setCell_cell_other _ _ _ _ _ (by omega), setCell_cell_other _ _ _ _ _ (by omega)]
          exact HR.out i (by omega)
      case measure => simp [intOf]; omega
    · go_wp2
      go_ret
      have : j = n := by omega
      subst this
      exact ⟨rfl, hat, ho⟩

set_option maxHeartbeats 1000000 in
theorem heldPutS (b off n c : Nat) (k : Int) (w : World) (hn : n ≤ 2 ^ 40) (hk0 : 0 ≤ k) (hk : k ≤ 2 ^ 40) (hat : BoxAt w b off (marks k n)) :
    Calls Try.prog 94 #[.slice (some ⟨b, off, none⟩) n c, .int .i64 k] w fun e w' => e = .returned (.int .i64 (k + 2 * n)) ∧ w' = w := by
  have HA : Hid (BoxAt w b off (marks k n)) := hat
  clear hat
  go_enter Try.func94, Try.ntmps94
  go_wp2
  go_loop [1, 5] (fun q i => ∃ j : Nat, j ≤ n ∧ i = .int .i64 j ∧ q = .int .i64 (k + 2 * j)) (fun _ i => n - (intOf i).toNat)
  case atStart => exact ⟨0, Nat.zero_le _, rfl, by simp⟩
  case round =>
    obtain ⟨j, hj, rfl, rfl⟩ := hrel
    by_cases hlt : j < n
    · obtain ⟨c1, c2⟩ := HA.out.2 j (by rw [marks_length]; exact hlt)
      rw [marks_getD _ _ _ hlt] at c1 c2
      go_wp2
      go_round
      case rel => exact ⟨j + 1, by omega, by go_num, by go_num⟩
      case measure => simp [intOf]; omega
    · go_wp2
      go_ret
      have : j = n := by omega
      subst this
      exact ⟨rfl, rfl⟩
end Go.Proofs.Ytbbbfnfpmaogoaa.Own

namespace Go.Proofs.Ytbbbfnfpmaogoaa.Own
open Go.RowKit
set_option linter.unusedVariables false

set_option maxHeartbeats 1000000 in
theorem markPutS0 (a : Option Addr) (c : Nat) (k : Int) (w : World) :
    Calls Try.prog 92 #[.slice a 0 c, .int .i64 k] w fun e w' => e = .returned (.int .i64 k) ∧ w' = w := by
  go_enter Try.func92, Try.ntmps92
  go_wp2
  go_loop [1, 5] (fun q i => i = .int .i64 0 ∧ q = .int .i64 k) (fun _ _ => 0)
  case atStart => exact ⟨rfl, rfl⟩
  case round =>
    obtain ⟨rfl, rfl⟩ := hrel
    go_wp2
    go_ret
    exact ⟨rfl, rfl⟩
set_option maxHeartbeats 1000000 in
theorem heldPutS0 (a : Option Addr) (c : Nat) (k : Int) (w : World) :
    Calls Try.prog 94 #[.slice a 0 c, .int .i64 k] w fun e w' => e = .returned (.int .i64 k) ∧ w' = w := by
  go_enter Try.func94, Try.ntmps94
  go_wp2
  go_loop [1, 5] (fun q i => i = .int .i64 0 ∧ q = .int .i64 k) (fun _ _ => 0)
  case atStart => exact ⟨rfl, rfl⟩
  case round =>
    obtain ⟨rfl, rfl⟩ := hrel
    go_wp2
    go_ret
    exact ⟨rfl, rfl⟩

theorem markPutB (a : Option Addr) (c n B : Nat) (xs : List (Int × Int)) (k : Int) (w : World) (h : OwnB w B a xs) (hl : xs.length = n) (hn : n ≤ 2 ^ 40) (hk0 : 0 ≤ k) (hk : k ≤ 2 ^ 40) :
    Calls Try.prog 92 #[.slice a n c, .int .i64 k] w fun e w' => e = .returned (.int .i64 (k + 2 * n)) ∧ OwnB w' B a (marks k n) ∧ OnlyB a xs w w' := by
  subst hl
  rcases h with h | ⟨g, rfl, hB, h, hf⟩
  · subst h
    refine (markPutS0 a c k w).mono ?_
    rintro e w' ⟨rfl, rfl⟩
    exact ⟨by simp, .inl rfl, .inl ⟨rfl, rfl⟩⟩
  · by_cases h0 : xs = []
    · subst h0
      refine (markPutS0 _ c k w).mono ?_
      rintro e w' ⟨rfl, rfl⟩
      exact ⟨by simp, .inl rfl, .inl ⟨rfl, rfl⟩⟩
    refine (markPutS g 0 xs.length c k w hn hk0 hk hf ?_ h.1).mono ?_
    · intro i hi
      have := h.2 (i / 2) (by omega)
      rcases Nat.mod_two_eq_zero_or_one i with m | m
      · exact ⟨_, by rw [show 0 + i = 0 + i / 2 * 2 by omega]; exact this.1, rfl⟩
      · exact ⟨_, by rw [show 0 + i = 0 + i / 2 * 2 + 1 by omega]; exact this.2, rfl⟩
    · rintro e w' ⟨rfl, hm, ho⟩
      exact ⟨rfl, .inr ⟨g, rfl, hB, hm, fun o => by rw [ho.frozen]; exact hf o⟩, .inr ⟨g, h0, rfl, ho⟩⟩
theorem heldPutB (a : Option Addr) (c n B : Nat) (k : Int) (w : World) (h : OwnB w B a (marks k n)) (hn : n ≤ 2 ^ 40) (hk0 : 0 ≤ k) (hk : k ≤ 2 ^ 40) :
    Calls Try.prog 94 #[.slice a n c, .int .i64 k] w fun e w' => e = .returned (.int .i64 (k + 2 * n)) ∧ w' = w := by
  by_cases h0 : n = 0
  · subst h0
    refine (heldPutS0 a c k w).mono ?_
    rintro e w' ⟨rfl, rfl⟩
    exact ⟨by simp, rfl⟩
  rcases h with h | ⟨g, rfl, hB, h, hf⟩
  · have := marks_length k n
    rw [h] at this
    simp at this
    omega
  · exact heldPutS g 0 n c k w hn hk0 hk h
end Go.Proofs.Ytbbbfnfpmaogoaa.Own

namespace Go.Proofs.Ytbbbfnfpmaogoaa.Own
open Go.RowKit
set_option linter.unusedVariables false
set_option linter.unusedSimpArgs false

/-- A vote's eight cells alone. -/
def C8 (w : World) (b o : Nat) (x : VM) : Prop := w.cell? ⟨b, o, none⟩ = some (.int .i64 x.bal) ∧ w.cell? ⟨b, o + 1, none⟩ = some (.bool x.b.n) ∧ w.cell? ⟨b, o + 2, none⟩ = some (.int .i64 x.b.p) ∧ w.cell? ⟨b, o + 3, none⟩ = some (.int .i64 x.b.q) ∧ w.cell? ⟨b, o + 4, none⟩ = some (.slice x.a1 x.b.xs.length x.c1) ∧ w.cell? ⟨b, o + 5, none⟩ = some (.slice x.a2 x.b.ys.length x.c2) ∧ w.cell? ⟨b, o + 6, none⟩ = some (.int .i64 x.b.v) ∧ w.cell? ⟨b, o + 7, none⟩ = some (.int .i64 x.b.k)
theorem C8.congr {w w' : World} {b o : Nat} {x : VM} (h : C8 w b o x) (e : ∀ i, i < 8 → w'.cell? ⟨b, o + i, none⟩ = w.cell? ⟨b, o + i, none⟩) : C8 w' b o x := by
  obtain ⟨h0, h1, h2, h3, h4, h5, h6, h7⟩ := h
  exact ⟨by have := e 0 (by omega); simpa using this.trans h0, (e 1 (by omega)).trans h1, (e 2 (by omega)).trans h2, (e 3 (by omega)).trans h3, (e 4 (by omega)).trans h4, (e 5 (by omega)).trans h5, (e 6 (by omega)).trans h6, (e 7 (by omega)).trans h7⟩
/-- The block of a list that is not empty. -/
def blkOf (a : Option Addr) (n : Nat) : Option Nat := if n = 0 then none else a.map fun p => p.block
theorem OnlyB.heap {a : Option Addr} {xs : List P2} {w w' : World} (h : OnlyB a xs w w') {b : Nat} (hb : blkOf a xs.length ≠ some b) : w'.heap[b]? = w.heap[b]? := by
  rcases h with ⟨_, rfl⟩ | ⟨g, hne, rfl, h⟩
  · rfl
  · refine h.block b fun e => hb ?_
    have : xs.length ≠ 0 := fun h0 => hne (List.eq_nil_of_length_eq_zero h0)
    simp [blkOf, this, e]
theorem OnlyB.size {a : Option Addr} {xs : List P2} {w w' : World} (h : OnlyB a xs w w') : w'.heap.size = w.heap.size := by
  rcases h with ⟨_, rfl⟩ | ⟨g, hne, rfl, h⟩
  · rfl
  · exact h.size
theorem OwnB.blk {w w' : World} {B : Nat} {a : Option Addr} {xs : List P2} (h : OwnB w B a xs) (hs : w'.heap.size = w.heap.size) (hb : ∀ b, blkOf a xs.length = some b → w'.heap[b]? = w.heap[b]?) : OwnB w' B a xs := by
  rcases h with h | ⟨g, rfl, hB, h, hf⟩
  · exact .inl h
  · by_cases h0 : xs = []
    · exact .inl h0
    · have hl : xs.length ≠ 0 := fun e => h0 (List.eq_nil_of_length_eq_zero e)
      have e := hb g (by simp [blkOf, hl])
      exact .inr ⟨g, rfl, hB, h.block (Nat.le_of_eq hs.symm) e, fun o => by rw [World.frozen?_of_block (w := w) (a := ⟨g, o, none⟩) e]; exact hf o⟩
/-- The blocks of a vote's lists. -/
def blk1 (x : VM) : Option Nat := blkOf x.a1 x.b.xs.length
def blk2 (x : VM) : Option Nat := blkOf x.a2 x.b.ys.length
/-- All lists lie apart, and none in block g. -/
structure Sep (g : Nat) (vs : List VM) : Prop where
  one : ∀ i, i < vs.length → blk1 (vs.getD i v0) ≠ some g ∧ blk2 (vs.getD i v0) ≠ some g
  two : ∀ i, i < vs.length → ∀ b, blk1 (vs.getD i v0) = some b → blk2 (vs.getD i v0) ≠ some b
  all : ∀ i j, i < vs.length → j < vs.length → i ≠ j → ∀ b, (blk1 (vs.getD i v0) = some b ∨ blk2 (vs.getD i v0) = some b) → blk1 (vs.getD j v0) ≠ some b ∧ blk2 (vs.getD j v0) ≠ some b
/-- Votes in memory of one's own, from block B on: the list in block g. -/
structure OwnVs (w : World) (B g : Nat) (vs : List VM) : Prop where
  lt : g < w.heap.size
  lo : B ≤ g
  fr : ∀ o, w.frozen? ⟨g, o, none⟩ = false
  cell : ∀ i, i < vs.length → C8 w g (i * 8) (vs.getD i v0)
  own : ∀ i, i < vs.length → OwnB w B (vs.getD i v0).a1 (vs.getD i v0).b.xs ∧ OwnB w B (vs.getD i v0).a2 (vs.getD i v0).b.ys
theorem OwnVs.at {w : World} {B g : Nat} {vs : List VM} (h : OwnVs w B g vs) : VAt w g 0 vs :=
  ⟨h.lt, fun i hi => ⟨by rw [Nat.zero_add]; exact h.cell i hi, (h.own i hi).1.sl, (h.own i hi).2.sl⟩⟩
/-- How many numbers the marks of a vote take. -/
def stepV (x : VM) : Nat := 6 + 2 * x.b.xs.length + 2 * x.b.ys.length
def stepsV (vs : List VM) : Nat → Nat
  | 0 => 0
  | k + 1 => stepsV vs k + stepV (vs.getD k v0)
/-- A vote, marked from k on. -/
def markedV (k : Int) (x : VM) : VM := { x with bal := k, b := ⟨(k + 1) % 3 == 0, k + 2, k + 3, marks (k + 4) x.b.xs.length, marks (k + 4 + 2 * x.b.xs.length) x.b.ys.length, k + 4 + 2 * x.b.xs.length + 2 * x.b.ys.length, k + 5 + 2 * x.b.xs.length + 2 * x.b.ys.length⟩ }
/-- The first j votes are marked. -/
def mixV (k0 : Int) (vs : List VM) (j : Nat) : List VM := (List.range vs.length).map fun i => if i < j then markedV (k0 + (stepsV vs i : Nat)) (vs.getD i v0) else vs.getD i v0
theorem mixV_len (k0 : Int) (vs : List VM) (j : Nat) : (mixV k0 vs j).length = vs.length := by simp [mixV]
theorem mixV_at (k0 : Int) (vs : List VM) (j : Nat) {i : Nat} (hi : i < vs.length) : (mixV k0 vs j).getD i v0 = if i < j then markedV (k0 + (stepsV vs i : Nat)) (vs.getD i v0) else vs.getD i v0 := by simp [mixV, List.getD, hi]
theorem mixV_zero (k0 : Int) (vs : List VM) : mixV k0 vs 0 = vs := by
  apply List.ext_getElem
  · simp [mixV]
  · intro i h1 h2
    simp [mixV, List.getD, h2]
theorem marked_blk (k : Int) (x : VM) : blk1 (markedV k x) = blk1 x ∧ blk2 (markedV k x) = blk2 x := by
  simp [blk1, blk2, markedV, marks_length]
theorem mix_blk (k0 : Int) (vs : List VM) (j : Nat) {i : Nat} (hi : i < vs.length) : blk1 ((mixV k0 vs j).getD i v0) = blk1 (vs.getD i v0) ∧ blk2 ((mixV k0 vs j).getD i v0) = blk2 (vs.getD i v0) := by
  rw [mixV_at _ _ _ hi]
  split
  · exact marked_blk _ _
  · exact ⟨rfl, rfl⟩
theorem Sep.mix {g : Nat} {vs : List VM} (h : Sep g vs) (k0 : Int) (j : Nat) : Sep g (mixV k0 vs j) := by
  refine ⟨fun i hi => ?_, fun i hi b => ?_, fun i l hi hl hne b => ?_⟩
  · rw [mixV_len] at hi; rw [(mix_blk k0 vs j hi).1, (mix_blk k0 vs j hi).2]; exact h.one i hi
  · rw [mixV_len] at hi; rw [(mix_blk k0 vs j hi).1, (mix_blk k0 vs j hi).2]; exact h.two i hi b
  · rw [mixV_len] at hi hl; rw [(mix_blk k0 vs j hi).1, (mix_blk k0 vs j hi).2, (mix_blk k0 vs j hl).1, (mix_blk k0 vs j hl).2]; exact h.all i l hi hl hne b

/-- A world in which the cells o .. o + 7 of block g alone may have turned, and a vote's lists. -/
structure OneV (g j : Nat) (x : VM) (w w' : World) : Prop where
  size : w'.heap.size = w.heap.size
  os : w'.os = w.os
  tape : w'.tape = w.tape
  output : w'.output = w.output
  block : ∀ b, b ≠ g → blk1 x ≠ some b → blk2 x ≠ some b → w'.heap[b]? = w.heap[b]?
  cells : ∀ o, (o < j * 8 ∨ j * 8 + 7 < o) → w'.cell? ⟨g, o, none⟩ = w.cell? ⟨g, o, none⟩
  fr : ∀ o, w'.frozen? ⟨g, o, none⟩ = w.frozen? ⟨g, o, none⟩
theorem OneV.refl (g j : Nat) (x : VM) (w : World) : OneV g j x w w := ⟨rfl, rfl, rfl, rfl, fun _ _ _ _ => rfl, fun _ _ => rfl, fun _ => rfl⟩
theorem OneV.trans {g j : Nat} {x : VM} {a b c : World} (h : OneV g j x a b) (k : OneV g j x b c) : OneV g j x a c :=
  ⟨k.size.trans h.size, k.os.trans h.os, k.tape.trans h.tape, k.output.trans h.output, fun n h1 h2 h3 => (k.block n h1 h2 h3).trans (h.block n h1 h2 h3), fun o ho => (k.cells o ho).trans (h.cells o ho), fun o => (k.fr o).trans (h.fr o)⟩
theorem OneV.set (g j : Nat) (x : VM) (w : World) (o : Nat) (ho : j * 8 ≤ o ∧ o ≤ j * 8 + 7) (v : Value) : OneV g j x w (w.setCell ⟨g, o, none⟩ v) :=
  ⟨by simp [World.setCell], rfl, rfl, rfl, fun b hb _ _ => Below.heap_setCell _ _ _ _ hb, fun o' h => setCell_cell_other _ _ _ _ _ (by omega), fun o' => by simp⟩
theorem OnlyB.facts {a : Option Addr} {xs : List P2} {w w' : World} (h : OnlyB a xs w w') : w'.os = w.os ∧ w'.tape = w.tape ∧ w'.output = w.output := by
  rcases h with ⟨_, rfl⟩ | ⟨g, hne, rfl, h⟩
  · exact ⟨rfl, rfl, rfl⟩
  · exact ⟨h.os, h.tape, h.output⟩
theorem OneV.of1 {g j : Nat} {x : VM} {w w' : World} (h : OnlyB x.a1 x.b.xs w w') (hg : blk1 x ≠ some g) : OneV g j x w w' :=
  ⟨h.size, h.facts.1, h.facts.2.1, h.facts.2.2, fun b _ h1 _ => h.heap h1, fun o _ => World.cell?_of_block (w := w) (a := ⟨g, o, none⟩) (h.heap hg), fun o => World.frozen?_of_block (w := w) (a := ⟨g, o, none⟩) (h.heap hg)⟩
theorem OneV.of2 {g j : Nat} {x : VM} {w w' : World} (h : OnlyB x.a2 x.b.ys w w') (hg : blk2 x ≠ some g) : OneV g j x w w' :=
  ⟨h.size, h.facts.1, h.facts.2.1, h.facts.2.2, fun b _ _ h2 => h.heap h2, fun o _ => World.cell?_of_block (w := w) (a := ⟨g, o, none⟩) (h.heap hg), fun o => World.frozen?_of_block (w := w) (a := ⟨g, o, none⟩) (h.heap hg)⟩

/-- One vote more is marked. -/
theorem mv_step {w w' : World} {B g j : Nat} {k0 : Int} {vs : List VM} (h : OwnVs w B g (mixV k0 vs j)) (sep : Sep g vs) (hj : j < vs.length) (ho : OneV g j (vs.getD j v0) w w') (hc : C8 w' g (j * 8) (markedV (k0 + (stepsV vs j : Nat)) (vs.getD j v0))) (h1 : OwnB w' B (vs.getD j v0).a1 (markedV (k0 + (stepsV vs j : Nat)) (vs.getD j v0)).b.xs) (h2 : OwnB w' B (vs.getD j v0).a2 (markedV (k0 + (stepsV vs j : Nat)) (vs.getD j v0)).b.ys) : OwnVs w' B g (mixV k0 vs (j + 1)) := by
  have atO : ∀ i, i < vs.length → i ≠ j → (mixV k0 vs (j + 1)).getD i v0 = (mixV k0 vs j).getD i v0 := fun i hi hne => by
    rw [mixV_at _ _ _ hi, mixV_at _ _ _ hi]
    by_cases hl : i < j
    · rw [if_pos hl, if_pos (by omega)]
    · rw [if_neg hl, if_neg (by omega)]
  have atJ : (mixV k0 vs (j + 1)).getD j v0 = markedV (k0 + (stepsV vs j : Nat)) (vs.getD j v0) := by rw [mixV_at _ _ _ hj, if_pos (by omega)]
  refine ⟨by rw [ho.size]; exact h.lt, h.lo, fun o => by rw [ho.fr]; exact h.fr o, fun i hi => ?_, fun i hi => ?_⟩
  · rw [mixV_len] at hi
    by_cases e : i = j
    · subst e; rw [atJ]; exact hc
    · rw [atO i hi e]
      exact (h.cell i (by rw [mixV_len]; exact hi)).congr fun l hl => ho.cells _ (by omega)
  · rw [mixV_len] at hi
    by_cases e : i = j
    · subst e; rw [atJ]; exact ⟨h1, h2⟩
    · rw [atO i hi e]
      have o := h.own i (by rw [mixV_len]; exact hi)
      have m := mix_blk k0 vs j hi
      have keep : ∀ b, (blk1 (vs.getD i v0) = some b ∨ blk2 (vs.getD i v0) = some b) → w'.heap[b]? = w.heap[b]? := fun b hb => by
        have s := sep.all i j hi hj e b hb
        refine ho.block b (fun eg => ?_) s.1 s.2
        have s1 := sep.one i hi
        rw [eg] at hb
        rcases hb with hb | hb
        · exact s1.1 hb
        · exact s1.2 hb
      exact ⟨o.1.blk ho.size fun b hb => keep b (.inl (by rw [← m.1]; exact hb)), o.2.blk ho.size fun b hb => keep b (.inr (by rw [← m.2]; exact hb))⟩
end Go.Proofs.Ytbbbfnfpmaogoaa.Own

namespace Go.Proofs.Ytbbbfnfpmaogoaa.Own
open Go.RowKit
set_option linter.unusedVariables false

def flat (xs : List (Int × Int)) : List Value := xs.flatMap fun p => [.int .i64 p.1, .int .i64 p.2]
theorem flat_length (xs : List (Int × Int)) : (flat xs).length = xs.length * 2 := by
  induction xs with
  | nil => rfl
  | cons p r ih => simp [flat] at ih ⊢; omega
theorem flat_one (xs : List (Int × Int)) : ∀ v ∈ flat xs, v.oneCell' = true := by
  intro v hv
  simp [flat] at hv
  obtain ⟨a, b, _, h⟩ := hv
  rcases h with rfl | rfl <;> rfl
theorem flat_even (xs : List (Int × Int)) (i : Nat) (h : i < xs.length) : (flat xs)[i * 2]? = some (.int .i64 (xs.getD i (0, 0)).1) ∧ (flat xs)[i * 2 + 1]? = some (.int .i64 (xs.getD i (0, 0)).2) := by
  induction xs generalizing i with
  | nil => simp at h
  | cons p r ih =>
    cases i with
    | zero => simp [flat]
    | succ i =>
      have := ih i (by simpa using h)
      simp only [flat, List.flatMap_cons] at this ⊢
      rw [show (i + 1) * 2 = i * 2 + 2 by omega, show i * 2 + 2 + 1 = i * 2 + 1 + 2 by omega]
      simpa using this
end Go.Proofs.Ytbbbfnfpmaogoaa.Own

namespace Go.Proofs.Ytbbbfnfpmaogoaa.Own
open Go.RowKit
set_option linter.unusedVariables false
set_option linter.unusedSimpArgs false

theorem owned2 {w : World} {e : TypeId} {base m : Nat} {v : Value} {xs : List P2} (h : w.ownsRow base e 2 v m (flat xs)) (hm : 0 < m) :
    ∃ g cap, v = .slice (some ⟨g, 0, none⟩) m cap ∧ base ≤ g ∧ m ≤ cap ∧ BoxAt w g 0 xs ∧ (∀ o, w.frozen? ⟨g, o, none⟩ = false) := by
  obtain ⟨hl, h⟩ := h
  rcases h with ⟨_, h0⟩ | ⟨g, cap, cur, hv, hb, hh, hmc, _, hsz, htk⟩
  · omega
  refine ⟨g, cap, hv, hb, hmc, ⟨(Array.getElem?_eq_some_iff.1 hh).1, fun i hi => ?_⟩, fun o => frozen_heap hh o⟩
  have e := flat_even xs i hi
  rw [flat_length] at hl
  rw [← htk] at e
  rw [cell_heap hh, cell_heap hh, Nat.zero_add]
  rw [List.getElem?_take_of_lt (by omega), List.getElem?_take_of_lt (by omega)] at e
  simpa using e
theorem flat_atP {w : World} {b off : Nat} {xs : List P2} (h : BoxAt w b off xs) (j : Nat) (v : Value) (hv : (flat xs)[j]? = some v) : w.cell? ((⟨b, off, none⟩ : Addr).add j) = some v := by
  have e : (⟨b, off, none⟩ : Addr).add j = ⟨b, off + j, none⟩ := by unfold Addr.add; split <;> simp_all
  have hl : j < (flat xs).length := (List.getElem?_eq_some_iff.1 hv).1
  rw [flat_length] at hl
  have hk : j / 2 < xs.length := by omega
  have f := flat_even _ (j / 2) hk
  have hx := h.2 (j / 2) hk
  rw [e]
  rcases Nat.mod_two_eq_zero_or_one j with m | m
  · rw [show j / 2 * 2 = j by omega] at f hx
    rw [hx.1, ← f.1, hv]
  · rw [show off + j / 2 * 2 + 1 = off + j by omega] at hx
    rw [show j / 2 * 2 + 1 = j by omega] at f
    rw [hx.2, ← f.2, hv]

theorem wpList_copyB {P : Program} {w : World} {ops : Array Oper} {rest : List Oper} {o : Oper} {a : Act} {Q : Exit → Act → World → Prop} (hgd : o.guard = none) (s x : Operand) (t : TypeId)
    (ho : o.op = .call { callee := .builtin .append, args := #[s, x], argTypes := #[t, t] }) (e : TypeId) (ht : P.underlying t = some (.slice e))
    (hi3 : (P.info? e).map (fun i => (i.zero, i.size, i.bytes)) = some (some (.agg #[.int .i64 0, .int .i64 0]), 2, 16))
    (hs : a.eval s = .slice none 0 0) (a1 : Option Addr) (c1 : Nat) (xs : List P2) (hx : a.eval x = .slice a1 xs.length c1) (hsl : Sl w a1 xs) (hl : xs.length ≤ 2 ^ 40) (H : Nat) (hH : w.heap.size = H)
    (h : ∀ a2 c2 w', OwnB w' H a2 xs → xs.length ≤ c2 → w.grownBy w' none → (∀ b, blkOf a2 xs.length = some b → H ≤ b ∧ b < w'.heap.size) → wpList P ops Q rest (a.put o.dst (.slice a2 xs.length c2)) w') : wpList P ops Q (o :: rest) a w := by
  obtain ⟨i, hi, hz, hsize, hby⟩ := info_parts hi3
  by_cases h0 : xs = []
  · subst h0
    have hsrc : Src P i.size t (.slice a1 0 c1) 0 [] w := by
      cases a1 with
      | none => exact Src.ofNil w ht c1
      | some ad => exact Src.ofSlice w ht ad 0 c1 [] (by simp) (fun j u h => by simp at h) (fun u h => by simp at h)
    have hr := run_append_nothing w t t o.type e i ht hi none 0 0 (Nat.le_refl _) _ hsrc
    have hx' : a.eval x = .slice a1 0 c1 := hx
    refine wpList_plain hgd fun K hK => ?_
    unfold Oper.wp execOp
    simp only [ho, resolve, invoke, builtin, Sem.run_bind, Sem.run_pure, Result.andThen_ok, List.map_toArray, List.map_cons, List.map_nil, hs, hx', hr]
    exact hK _ _ (h none 0 w (.inl rfl) (Nat.le_refl _) ⟨rfl, rfl, rfl, Nat.le_refl _, fun _ _ _ => rfl⟩ (fun b hb => by simp [blkOf] at hb))
  · have hpos : 0 < xs.length := List.length_pos_iff.2 h0
    rcases hsl with e' | ⟨b, off, rfl, hat⟩
    · exact absurd e' h0
    refine wpList_append_own w hgd s x t ho w.heap.size e i _ 2 16 ht hi hz hsize hby rfl (by omega) (.slice none 0 0) 0 [] hs (World.ownsRow_nil w _ e 2) ⟨b, off, none⟩ xs.length c1 (flat xs) hx (flat_length xs) (flat_atP hat) (flat_one xs) (by unfold maxLen; omega) (by omega) (Nat.le_refl _) ?_
    intro v' w' hown hgr _
    rw [Nat.zero_add, List.nil_append] at hown
    obtain ⟨g, cap, rfl, hg, hcap, hat', hfr⟩ := owned2 hown hpos
    refine h (some ⟨g, 0, none⟩) cap w' (.inr ⟨g, rfl, by omega, hat', hfr⟩) hcap hgr (fun b' hb' => ?_)
    have : g = b' := by
      unfold blkOf at hb'
      rw [if_neg (by omega)] at hb'
      simpa using hb'
    subst this
    exact ⟨by omega, hat'.1⟩
end Go.Proofs.Ytbbbfnfpmaogoaa.Own

namespace Go.Proofs.Ytbbbfnfpmaogoaa.Own
open Go.RowKit
set_option linter.unusedVariables false
set_option linter.unusedSimpArgs false

theorem infoReadC : (Try.prog.info? 160).map (fun i => (i.zero, i.size, i.bytes)) = some (some (.agg #[.int .i64 0, .int .i64 0]), 2, 16) := by kernel_rfl
theorem infoPutC : (Try.prog.info? 162).map (fun i => (i.zero, i.size, i.bytes)) = some (some (.agg #[.int .i64 0, .int .i64 0]), 2, 16) := by kernel_rfl

/-- An entry's seven cells. -/
def VM.ecells (x : VM) : Array Value := #[.bool x.b.n, .int .i64 x.b.p, .int .i64 x.b.q, .slice x.a1 x.b.xs.length x.c1, .slice x.a2 x.b.ys.length x.c2, .int .i64 x.b.v, .int .i64 x.b.k]
/-- A vote that a call made: its lists from block B on, apart, and of a room that holds them. -/
structure OneOwn (w : World) (B : Nat) (y : VM) : Prop where
  l1 : OwnB w B y.a1 y.b.xs
  l2 : OwnB w B y.a2 y.b.ys
  c1 : y.b.xs.length ≤ y.c1
  c2 : y.b.ys.length ≤ y.c2
  b1 : ∀ b, blk1 y = some b → B ≤ b ∧ b < w.heap.size
  b2 : ∀ b, blk2 y = some b → B ≤ b ∧ b < w.heap.size
  ap : ∀ b, blk1 y = some b → blk2 y ≠ some b

set_option maxRecDepth 100000 in
set_option maxHeartbeats 2000000 in
theorem entCopied (x : VM) (w : World) (h1 : Sl w x.a1 x.b.xs) (h2 : Sl w x.a2 x.b.ys) (k1 : x.b.xs.length ≤ 2 ^ 40) (k2 : x.b.ys.length ≤ 2 ^ 40) :
    Calls Try.prog 122 #[.agg x.ecells] w fun e w' => ∃ y : VM, e = .returned (.agg y.ecells) ∧ y.body = x.body ∧ OneOwn w' w.heap.size y ∧ Below w.heap.size w w' := by
  obtain ⟨bal, ⟨n, p, q, xs, ys, v, k⟩, a1, c1, a2, c2⟩ := x
  simp only [VM.ecells] at *
  have H1 : Hid (Sl w a1 xs) := h1
  have H2 : Hid (Sl w a2 ys) := h2
  clear h1 h2
  obtain ⟨X, hX⟩ : ∃ X, X = (w.alloc (.cells #[.bool n, .int .i64 p, .int .i64 q, .slice a1 xs.length c1, .slice a2 ys.length c2, .int .i64 v, .int .i64 k] 34)).alloc (.cells #[.bool false, .int .i64 0, .int .i64 0, .slice none 0 0, .slice none 0 0, .int .i64 0, .int .i64 0] 34) := ⟨_, rfl⟩
  have P0 : Hid (Blk X w.heap.size #[.bool n, .int .i64 p, .int .i64 q, .slice a1 xs.length c1, .slice a2 ys.length c2, .int .i64 v, .int .i64 k] 34) := by
    show Blk _ _ _ _; rw [hX]; exact (Blk.new _ _ _).alloc _
  have R0 : Hid (Blk X (w.heap.size + 1) #[.bool false, .int .i64 0, .int .i64 0, .slice none 0 0, .slice none 0 0, .int .i64 0, .int .i64 0] 34) := by
    show Blk _ _ _ _; rw [hX]; exact Blk.new2 _ _ _ _
  have BX : Hid (Below w.heap.size w X) := by
    show Below _ _ _; rw [hX]; exact ((Below.refl _ _).alloc (Nat.le_refl _) _).alloc (by rw [size_new]; omega) _
  have SX : X.heap.size = w.heap.size + 1 + 1 := by rw [hX, size_new, size_new]
  have HX : Hid (X = _) := hX
  clear hX
  obtain ⟨q0, q1, q2, q3, q4, q5, q6⟩ := P0.out.cells7
  have fr := P0.out.frozen
  go_enter Try.func122, Try.ntmps122
  go_upto_region 1 with fail
  rw [← HX.out]
  go_wp2_with (at_builtin; refine wpList_copyB rfl _ (.tmp 5) 29 rfl 160 Try.underlying29 infoReadC rfl a1 c1 xs rfl (H1.out.below BX.out) k1 (w.heap.size + 1 + 1) SX ?_)
  intro g1 e1 w3 o1 le1 gr1 hb1
  have B3 : Hid (Below X.heap.size X w3) := (Below.refl _ _).grown gr1 (Nat.le_refl _) (fun k hk => by cases hk)
  have P3 : Hid (Blk w3 w.heap.size #[.bool n, .int .i64 p, .int .i64 q, .slice a1 xs.length c1, .slice a2 ys.length c2, .int .i64 v, .int .i64 k] 34) := P0.out.keep B3.out
  have R3 : Hid (Blk w3 (w.heap.size + 1) #[.bool false, .int .i64 0, .int .i64 0, .slice none 0 0, .slice none 0 0, .int .i64 0, .int .i64 0] 34) := R0.out.keep B3.out
  have O1 : Hid (OwnB w3 (w.heap.size + 1 + 1) g1 xs) := o1
  have L1 : Hid (xs.length ≤ e1) := le1
  have G1 : Hid (∀ b, blkOf g1 xs.length = some b → w.heap.size + 1 + 1 ≤ b ∧ b < w3.heap.size) := hb1
  clear o1 le1 gr1 hb1 q0 q1 q2 q3 q4 q5 q6 fr
  obtain ⟨q0, q1, q2, q3, q4, q5, q6⟩ := P3.out.cells7
  have fr := P3.out.frozen
  go_upto_region 2 with fail
  obtain ⟨Y, hY⟩ : ∃ Y, Y = w3.setCell ⟨w.heap.size, 3, none⟩ (.slice g1 xs.length e1) := ⟨_, rfl⟩
  have HY : Hid (Y = w3.setCell ⟨w.heap.size, 3, none⟩ (.slice g1 xs.length e1)) := hY
  rw [← hY]
  have SY : Y.heap.size = w3.heap.size := by rw [hY]; simp [World.setCell]
  have S3 : w.heap.size + 1 + 1 ≤ w3.heap.size := by have := B3.out.size; omega
  have PY : Hid (Blk Y w.heap.size #[.bool n, .int .i64 p, .int .i64 q, .slice g1 xs.length e1, .slice a2 ys.length c2, .int .i64 v, .int .i64 k] 34) := by
    show Blk _ _ _ _; rw [hY]; exact P3.out.set 3 _
  have RY : Hid (Blk Y (w.heap.size + 1) #[.bool false, .int .i64 0, .int .i64 0, .slice none 0 0, .slice none 0 0, .int .i64 0, .int .i64 0] 34) := by
    show Blk _ _ _ _; rw [hY]; exact R3.out.other (by omega) _ _
  have BY : Hid (Below w.heap.size w Y) := by
    show Below _ _ _; rw [hY]; exact (BX.out.trans (B3.out.mono (by omega))).setCell (Nat.le_refl _) _
  have OY : Hid (OwnB Y (w.heap.size + 1 + 1) g1 xs) := O1.out.blk SY fun b hb => by
    have := G1.out b hb
    have hne : b ≠ w.heap.size := by omega
    rw [hY]; exact Below.heap_setCell _ _ _ _ hne
  clear q0 q1 q2 q3 q4 q5 q6 fr hY
  obtain ⟨q0, q1, q2, q3, q4, q5, q6⟩ := PY.out.cells7
  have fr := PY.out.frozen
  go_wp2_with (at_builtin; refine wpList_copyB rfl _ (.tmp 11) 30 rfl 162 Try.underlying30 infoPutC rfl a2 c2 ys rfl (H2.out.below BY.out) k2 w3.heap.size SY ?_)
  intro g2 e2 w4 o2 le2 gr2 hb2
  have B4 : Hid (Below Y.heap.size Y w4) := (Below.refl _ _).grown gr2 (Nat.le_refl _) (fun k hk => by cases hk)
  have P4 : Hid (Blk w4 w.heap.size #[.bool n, .int .i64 p, .int .i64 q, .slice g1 xs.length e1, .slice a2 ys.length c2, .int .i64 v, .int .i64 k] 34) := PY.out.keep B4.out
  have R4 : Hid (Blk w4 (w.heap.size + 1) #[.bool false, .int .i64 0, .int .i64 0, .slice none 0 0, .slice none 0 0, .int .i64 0, .int .i64 0] 34) := RY.out.keep B4.out
  have O2 : Hid (OwnB w4 w3.heap.size g2 ys) := o2
  have L2 : Hid (ys.length ≤ e2) := le2
  have G2 : Hid (∀ b, blkOf g2 ys.length = some b → w3.heap.size ≤ b ∧ b < w4.heap.size) := hb2
  have O14 : Hid (OwnB w4 (w.heap.size + 1 + 1) g1 xs) := OY.out.below B4.out
  have S4 : w3.heap.size ≤ w4.heap.size := by have := B4.out.size; omega
  clear o2 le2 gr2 hb2 q0 q1 q2 q3 q4 q5 q6 fr
  obtain ⟨q0, q1, q2, q3, q4, q5, q6⟩ := P4.out.cells7
  have fr := P4.out.frozen
  go_upto_region 3 with fail
  obtain ⟨Z, hZ⟩ : ∃ Z, Z = w4.setCell ⟨w.heap.size, 4, none⟩ (.slice g2 ys.length e2) := ⟨_, rfl⟩
  have HZ : Hid (Z = w4.setCell ⟨w.heap.size, 4, none⟩ (.slice g2 ys.length e2)) := hZ
  rw [← hZ]
  have SZ : Z.heap.size = w4.heap.size := by rw [hZ]; simp [World.setCell]
  have PZ : Hid (Blk Z w.heap.size #[.bool n, .int .i64 p, .int .i64 q, .slice g1 xs.length e1, .slice g2 ys.length e2, .int .i64 v, .int .i64 k] 34) := by
    show Blk _ _ _ _; rw [hZ]; exact P4.out.set 4 _
  have RZ : Hid (Blk Z (w.heap.size + 1) #[.bool false, .int .i64 0, .int .i64 0, .slice none 0 0, .slice none 0 0, .int .i64 0, .int .i64 0] 34) := by
    show Blk _ _ _ _; rw [hZ]; exact R4.out.other (by omega) _ _
  have BZ : Hid (Below w.heap.size w Z) := by
    show Below _ _ _; rw [hZ]; exact (BY.out.trans (B4.out.mono (by omega))).setCell (Nat.le_refl _) _
  have zb : ∀ b, b ≠ w.heap.size → Z.heap[b]? = w4.heap[b]? := fun b hb => by rw [hZ]; exact Below.heap_setCell _ _ _ _ hb
  have O1Z : Hid (OwnB Z (w.heap.size + 1 + 1) g1 xs) := O14.out.blk SZ fun b hb => zb b (by have := G1.out b hb; omega)
  have O2Z : Hid (OwnB Z w3.heap.size g2 ys) := O2.out.blk SZ fun b hb => zb b (by have := G2.out b hb; omega)
  clear q0 q1 q2 q3 q4 q5 q6 fr hZ zb
  obtain ⟨q0, q1, q2, q3, q4, q5, q6⟩ := PZ.out.cells7
  obtain ⟨r0, r1, r2, r3, r4, r5, r6⟩ := RZ.out.cells7
  have fr := RZ.out.frozen
  go_wp2_with fail
  obtain ⟨U, hU⟩ : ∃ U, U = ((((((Z.setCell ⟨w.heap.size + 1, 0, none⟩ (.bool n)).setCell ⟨w.heap.size + 1, 1, none⟩ (.int .i64 p)).setCell ⟨w.heap.size + 1, 2, none⟩ (.int .i64 q)).setCell ⟨w.heap.size + 1, 3, none⟩ (.slice g1 xs.length e1)).setCell ⟨w.heap.size + 1, 4, none⟩ (.slice g2 ys.length e2)).setCell ⟨w.heap.size + 1, 5, none⟩ (.int .i64 v)).setCell ⟨w.heap.size + 1, 6, none⟩ (.int .i64 k) := ⟨_, rfl⟩
  rw [← hU]
  have RU : Blk U (w.heap.size + 1) #[.bool n, .int .i64 p, .int .i64 q, .slice g1 xs.length e1, .slice g2 ys.length e2, .int .i64 v, .int .i64 k] 34 := by
    rw [hU]; exact ((((((RZ.out.set 0 _).set 1 _).set 2 _).set 3 _).set 4 _).set 5 _).set 6 _
  have SU : U.heap.size = Z.heap.size := by rw [hU]; simp [World.setCell]
  have BU : Below w.heap.size w U := by
    rw [hU]
    exact ((((((BZ.out.setCell (by show w.heap.size ≤ w.heap.size + 1; omega) _).setCell (by show w.heap.size ≤ w.heap.size + 1; omega) _).setCell (by show w.heap.size ≤ w.heap.size + 1; omega) _).setCell (by show w.heap.size ≤ w.heap.size + 1; omega) _).setCell (by show w.heap.size ≤ w.heap.size + 1; omega) _).setCell (by show w.heap.size ≤ w.heap.size + 1; omega) _).setCell (by show w.heap.size ≤ w.heap.size + 1; omega) _
  have ub : ∀ b, b ≠ w.heap.size + 1 → U.heap[b]? = Z.heap[b]? := fun b hb => by
    rw [hU, Below.heap_setCell _ _ _ _ hb, Below.heap_setCell _ _ _ _ hb, Below.heap_setCell _ _ _ _ hb, Below.heap_setCell _ _ _ _ hb, Below.heap_setCell _ _ _ _ hb, Below.heap_setCell _ _ _ _ hb, Below.heap_setCell _ _ _ _ hb]
  have O1U : OwnB U (w.heap.size + 1 + 1) g1 xs := O1Z.out.blk SU fun b hb => ub b (by have := G1.out b hb; omega)
  have O2U : OwnB U w3.heap.size g2 ys := O2Z.out.blk SU fun b hb => ub b (by have := G2.out b hb; omega)
  obtain ⟨z0, z1, z2, z3, z4, z5, z6⟩ := RU.cells7
  refine bodyPost_ret (v := .agg #[.bool n, .int .i64 p, .int .i64 q, .slice g1 xs.length e1, .slice g2 ys.length e2, .int .i64 v, .int .i64 k]) (by simp [results, Try.results122, go_sem, z0, z1, z2, z3, z4, z5, z6]) rfl ?_
  refine ⟨⟨bal, ⟨n, p, q, xs, ys, v, k⟩, g1, e1, g2, e2⟩, rfl, rfl, ⟨O1U.weaken (by omega), O2U.weaken (by omega), L1.out, L2.out, fun b hb => ?_, fun b hb => ?_, fun b hb hb' => ?_⟩, BU⟩
  · have := G1.out b hb; omega
  · have := G2.out b hb; omega
  · have := G1.out b hb
    have := G2.out b hb'
    omega

theorem OneOwn.blkV {w w' : World} {B : Nat} {y : VM} (h : OneOwn w B y) (hs : w.heap.size ≤ w'.heap.size) (hb : ∀ b, (blk1 y = some b ∨ blk2 y = some b) → w'.heap[b]? = w.heap[b]?) : OneOwn w' B y := by
  have f : ∀ (a : Option Addr) (xs : List P2), OwnB w B a xs → (∀ b, blkOf a xs.length = some b → w'.heap[b]? = w.heap[b]?) → OwnB w' B a xs := fun a xs h hb => by
    rcases h with h | ⟨g, rfl, hB, h, hf⟩
    · exact .inl h
    · by_cases h0 : xs = []
      · exact .inl h0
      · have hl : xs.length ≠ 0 := fun e => h0 (List.eq_nil_of_length_eq_zero e)
        have e := hb g (by simp [blkOf, hl])
        exact .inr ⟨g, rfl, hB, h.block hs e, fun o => by rw [World.frozen?_of_block (w := w) (a := ⟨g, o, none⟩) e]; exact hf o⟩
  exact ⟨f _ _ h.l1 fun b e => hb b (.inl e), f _ _ h.l2 fun b e => hb b (.inr e), h.c1, h.c2, fun b e => ⟨(h.b1 b e).1, Nat.lt_of_lt_of_le (h.b1 b e).2 hs⟩, fun b e => ⟨(h.b2 b e).1, Nat.lt_of_lt_of_le (h.b2 b e).2 hs⟩, h.ap⟩
theorem OneOwn.low {w : World} {B B' : Nat} {y : VM} (h : OneOwn w B y) (hB : B' ≤ B) : OneOwn w B' y :=
  ⟨h.l1.weaken hB, h.l2.weaken hB, h.c1, h.c2, fun b e => ⟨Nat.le_trans hB (h.b1 b e).1, (h.b1 b e).2⟩, fun b e => ⟨Nat.le_trans hB (h.b2 b e).1, (h.b2 b e).2⟩, h.ap⟩
end Go.Proofs.Ytbbbfnfpmaogoaa.Own

namespace Go.Proofs.Ytbbbfnfpmaogoaa.Own
open Go.RowKit
set_option linter.unusedVariables false
set_option linter.unusedSimpArgs false

theorem step_append_void {P : Program} {ops : Array Oper} {o : Oper} {a : Act} {w : World} {K : Act → World → Prop} {Q : Exit → Act → World → Prop} {E : Prop} (hgd : o.guard = none) (s x : Operand) (t : TypeId)
    (ho : o.op = .call { callee := .builtin .append, args := #[s, x], argTypes := #[t, t] }) (e : TypeId) (i : TypeInfo) (ht : P.underlying t = some (.slice e)) (hi : P.info? e = some i)
    (g : Addr) (hs : a.eval s = .slice (some g) 0 0) (ad : Option Addr) (c : Nat) (hx : a.eval x = .slice ad 0 c) (h : K (a.put o.dst (.slice (some g) 0 0)) w) :
    if Region.wanted o (yielded ops a.tmps) = true then Oper.wp P o a w K Q else E := by
  have hw : Region.wanted o (yielded ops a.tmps) = true := by simp [Region.wanted, hgd]
  rw [if_pos hw]
  have hsrc : Src P i.size t (.slice ad 0 c) 0 [] w := by
    cases ad with
    | none => exact Src.ofNil w ht c
    | some ad => exact Src.ofSlice w ht ad 0 c [] (by simp) (fun j u h => by simp at h) (fun u h => by simp at h)
  have hr := run_append_nothing w t t o.type e i ht hi (some g) 0 0 (Nat.le_refl _) _ hsrc
  unfold Oper.wp execOp
  simp only [ho, resolve, invoke, builtin, Sem.run_bind, Sem.run_pure, Result.andThen_ok, List.map_toArray, List.map_cons, List.map_nil, hs, hx, hr]
  exact h

/-- A row of pairs of one's own, from block B on, in block g. -/
def RowE (t : TypeId) (w : World) (B g cap : Nat) (xs : List P2) : Prop := w.ownsRow B t 2 (.slice (some ⟨g, 0, none⟩) xs.length cap) xs.length (flat xs)
theorem RowE.keep {t : TypeId} {w w' : World} {B g cap : Nat} {xs : List P2} (h : RowE t w B g cap xs) (hb : w'.heap[g]? = w.heap[g]?) : RowE t w' B g cap xs := by
  obtain ⟨h1, h2⟩ := h
  refine ⟨h1, ?_⟩
  rcases h2 with h2 | ⟨g', cap', cur, hv, hg, hh, r⟩
  · exact .inl h2
  · injection hv with e1 e2 e3
    injection e1 with e1
    injection e1 with e1
    subst e1
    exact .inr ⟨g, cap', cur, by rw [e3], hg, by rw [hb]; exact hh, r⟩
theorem RowE.lt {t : TypeId} {w : World} {B g cap : Nat} {xs : List P2} (h : RowE t w B g cap xs) : B ≤ g ∧ g < w.heap.size := by
  obtain ⟨h1, h2⟩ := h
  rcases h2 with ⟨hv, _⟩ | ⟨g', cap', cur, hv, hg, hh, r⟩
  · cases hv
  · injection hv with e1 e2 e3
    injection e1 with e1
    injection e1 with e1
    subst e1
    exact ⟨hg, (Array.getElem?_eq_some_iff.1 hh).1⟩
theorem RowE.empty (t : TypeId) (w : World) (B : Nat) (hB : B ≤ w.heap.size) : RowE t (w.alloc (.cells #[] t)) B w.heap.size 0 [] :=
  ⟨rfl, .inr ⟨w.heap.size, 0, #[], rfl, hB, heap_new _ _, Nat.le_refl _, by decide, rfl, rfl⟩⟩
theorem RowE.ownB {t : TypeId} {w : World} {B g cap : Nat} {xs : List P2} (h : RowE t w B g cap xs) : OwnB w B (some ⟨g, 0, none⟩) xs ∧ xs.length ≤ cap := by
  obtain ⟨h1, h2⟩ := h
  rcases h2 with ⟨hv, _⟩ | ⟨g', cap', cur, hv, hg, hh, hmc, hr, hsz, htk⟩
  · cases hv
  · injection hv with e1 e2 e3
    injection e1 with e1
    injection e1 with e1
    subst e1
    refine ⟨.inr ⟨g, rfl, hg, ⟨(Array.getElem?_eq_some_iff.1 hh).1, fun i hi => ?_⟩, fun o => frozen_heap hh o⟩, by rw [e3]; exact hmc⟩
    have e := flat_even xs i hi
    rw [← htk] at e
    rw [cell_heap hh, cell_heap hh, Nat.zero_add]
    rw [List.getElem?_take_of_lt (by omega), List.getElem?_take_of_lt (by omega)] at e
    simpa using e
theorem grownSame (w : World) (r : Option Nat) : w.grownBy w r := ⟨rfl, rfl, rfl, Nat.le_refl _, fun _ _ _ => rfl⟩

set_option maxRecDepth 100000 in
theorem step_append_rowE {P : Program} {ops : Array Oper} {o : Oper} {a : Act} {V : World} {K : Act → World → Prop} {Q : Exit → Act → World → Prop} {E : Prop} (hgd : o.guard = none) (s x : Operand) (t tl : TypeId) (ul : P.underlying tl = some (.slice t))
    (info : (P.info? t).map (fun i => (i.zero, i.size, i.bytes)) = some (some (.agg #[.int .i64 0, .int .i64 0]), 2, 16))
    (ho : o.op = .call { callee := .builtin .append, args := #[s, x], argTypes := #[tl, tl] }) (B g0 : Nat) (hs : a.eval s = .slice (some ⟨g0, 0, none⟩) 0 0) (hown : RowE t V B g0 0 [])
    (a2 : Option Addr) (c2 : Nat) (xs : List P2) (hx : a.eval x = .slice a2 xs.length c2) (hsl : Sl V a2 xs) (hl : xs.length ≤ 2 ^ 40) (hB : B ≤ V.heap.size)
    (h : ∀ gg cap w', RowE t w' B gg cap xs → V.grownBy w' (some g0) → (gg = g0 ∨ gg = V.heap.size) → K (a.put o.dst (.slice (some ⟨gg, 0, none⟩) xs.length cap)) w') :
    if Region.wanted o (yielded ops a.tmps) = true then Oper.wp P o a V K Q else E := by
  obtain ⟨i0, hi, hz0, hz1, hz2⟩ := info_parts info
  by_cases hd : xs = []
  · subst hd
    exact step_append_void hgd s x _ ho t i0 ul hi ⟨g0, 0, none⟩ hs a2 c2 hx (h g0 0 V hown (grownSame V _) (.inl rfl))
  · have hpos : 0 < xs.length := List.length_pos_iff.2 hd
    rcases hsl with e | ⟨b2, o2, rfl, a4⟩
    · exact absurd e hd
    refine step_append_lies V hgd s x _ ho B t i0 _ 2 16 ul hi hz0 hz1 hz2 rfl (by omega) (.slice (some ⟨g0, 0, none⟩) 0 0) 0 [] hs hown ⟨b2, o2, none⟩ xs.length c2 (flat xs) hx (flat_length xs) (flat_atP a4) (flat_one xs) hpos (by unfold maxLen; omega) (by omega) hB _ rfl ?_
    intro gg cap w' h1 h2 h3 h4
    rw [Nat.zero_add, List.nil_append] at h1
    rw [Nat.zero_add]
    refine h gg cap w' h1 h2 ?_
    rcases h3 with h3 | h3
    · left
      simp only [Value.ownBlock] at h3
      injection h3 with h3
      exact h3.symm
    · exact .inr h3
end Go.Proofs.Ytbbbfnfpmaogoaa.Own
