/-
  Own text, by program out of Mark.lean: the same over []Read.
-/
import Derived.Test.YtfifiobcmdmefaaBase
namespace Go.Proofs.Ytfifiobcmdmefaa.Own
open Go.RowKit

set_option maxHeartbeats 1000000 in
theorem markReadS (b off n c : Nat) (k : Int) (w : World) (hn : n ≤ 2 ^ 40) (hk0 : 0 ≤ k) (hk : k ≤ 2 ^ 40) (hfr : ∀ o, w.frozen? ⟨b, o, none⟩ = false) (hcell : ∀ i, i < 2 * n → ∃ v, w.cell? ⟨b, off + i, none⟩ = some v ∧ v.oneCell' = true) (hb : b < w.heap.size) :
    Calls Try.prog 91 #[.slice (some ⟨b, off, none⟩) n c, .int .i64 k] w fun e w' => e = .returned (.int .i64 (k + 2 * n)) ∧ BoxAt w' b off (marks k n) ∧ Only b w w' := by
  have HC : Hid (∀ i, i < 2 * n → ∃ v, w.cell? ⟨b, off + i, none⟩ = some v ∧ v.oneCell' = true) := hcell
  have HF : Hid (∀ o, w.frozen? ⟨b, o, none⟩ = false) := hfr
  clear hcell hfr
  go_enter Try.func91, Try.ntmps91
  go_wp2
  go_loopw [1, 5] (fun q i wr => ∃ j : Nat, j ≤ n ∧ i = .int .i64 j ∧ q = .int .i64 (k + 2 * j) ∧ BoxAt wr b off (marks k j) ∧ (∀ i, 2 * j ≤ i → wr.cell? ⟨b, off + i, none⟩ = w.cell? ⟨b, off + i, none⟩) ∧ Only b w wr) (fun _ i _ => n - (intOf i).toNat)
  case atStart => exact ⟨0, Nat.zero_le _, rfl, by simp, ⟨hb, by simp [marks]⟩, fun _ _ => rfl, Only.refl _ _⟩
  case round =>
    obtain ⟨j, hj, rfl, rfl, hat, hrest, ho⟩ := hrel
    by_cases hlt : j < n
    · obtain ⟨v1, hv1, hv1'⟩ := HC.out (2 * j) (by omega)
      obtain ⟨v2, hv2, hv2'⟩ := HC.out (2 * j + 1) (by omega)
      have c1 : wr.cell? ⟨b, off + j * 2, none⟩ = some v1 := by rw [show off + j * 2 = off + 2 * j by omega, hrest _ (by omega)]; exact hv1
      have c2 : wr.cell? ⟨b, off + j * 2 + 1, none⟩ = some v2 := by rw [show off + j * 2 + 1 = off + (2 * j + 1) by omega, hrest _ (by omega)]; exact hv2
      have f1 : wr.frozen? ⟨b, off + j * 2, none⟩ = false := by rw [ho.frozen]; exact HF.out _
      have f2 : wr.frozen? ⟨b, off + j * 2 + 1, none⟩ = false := by rw [ho.frozen]; exact HF.out _
      have Hrest := hrest
      have HR : Hid (∀ i, 2 * j ≤ i → wr.cell? ⟨b, off + i, none⟩ = w.cell? ⟨b, off + i, none⟩) := Hrest
      have HA : Hid (BoxAt wr b off (marks k j)) := hat
      clear hrest Hrest hat hv1 hv2
      go_wp2
      go_roundw
      case rel =>
        refine ⟨j + 1, by omega, by go_num, ?_, ?_, ?_, (ho.setCell _).setCell _⟩
        · go_num
        · refine ⟨by simpa [World.setCell] using HA.out.1, fun i hi => ?_⟩
          rw [marks_length] at hi
          rw [marks_getD _ _ _ hi]
          by_cases e : i = j
          · subst e
            exact ⟨by rw [setCell_cell_other _ _ _ _ _ (by omega)]; exact setCell_cell_same _ _ _ _ _ c1, setCell_cell_same _ _ _ _ v2 (by rw [setCell_cell_other _ _ _ _ _ (by omega)]; exact c2)⟩
          · have := HA.out.2 i (by rw [marks_length]; omega)
            rw [marks_getD _ _ _ (by omega)] at this
            rw [setCell_cell_other _ _ _ _ _ (by omega), setCell_cell_other _ _ _ _ _ (by omega), setCell_cell_other _ _ _ _ _ (by omega), setCell_cell_other _ _ _ _ _ (by omega)]
            exact this
        · intro i hi
          rw [setCell_cell_other _ _ _ _ _ (by omega), setCell_cell_other _ _ _ _ _ (by omega)]
          exact HR.out i (by omega)
      case measure => simp [intOf]; omega
    · go_wp2
      go_ret
      have : j = n := by omega
      subst this
      exact ⟨rfl, hat, ho⟩

set_option maxHeartbeats 1000000 in
theorem heldReadS (b off n c : Nat) (k : Int) (w : World) (hn : n ≤ 2 ^ 40) (hk0 : 0 ≤ k) (hk : k ≤ 2 ^ 40) (hat : BoxAt w b off (marks k n)) :
    Calls Try.prog 93 #[.slice (some ⟨b, off, none⟩) n c, .int .i64 k] w fun e w' => e = .returned (.int .i64 (k + 2 * n)) ∧ w' = w := by
  have HA : Hid (BoxAt w b off (marks k n)) := hat
  clear hat
  go_enter Try.func93, Try.ntmps93
  go_wp2
  go_loop [1, 5] (fun q i => ∃ j : Nat, j ≤ n ∧ i = .int .i64 j ∧ q = .int .i64 (k + 2 * j)) (fun _ i => n - (intOf i).toNat)
  case atStart => exact ⟨0, Nat.zero_le _, rfl, by simp⟩
  case round =>
    obtain ⟨j, hj, rfl, rfl⟩ := hrel
    by_cases hlt : j < n
    · obtain ⟨c1, c2⟩ := HA.out.2 j (by rw [marks_length]; exact hlt)
      rw [marks_getD _ _ _ hlt] at c1 c2
      go_wp2
      go_round
      case rel => exact ⟨j + 1, by omega, by go_num, by go_num⟩
      case measure => simp [intOf]; omega
    · go_wp2
      go_ret
      have : j = n := by omega
      subst this
      exact ⟨rfl, rfl⟩
end Go.Proofs.Ytfifiobcmdmefaa.Own
