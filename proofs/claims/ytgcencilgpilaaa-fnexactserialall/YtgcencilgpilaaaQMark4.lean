/-
  Own text: what laws.markInsS does.
-/
import Derived.Test.YtgcencilgpilaaaPk1
namespace Go.Proofs.Ytgcencilgpilaaa.Own
open Go.RowKit

set_option maxHeartbeats 1000000 in
theorem markInsS (b off n c : Nat) (k : Int) (w : World) (hn : n ≤ 2 ^ 40) (hk0 : 0 ≤ k) (hk : k ≤ 2 ^ 40) (hfr : ∀ o, w.frozen? ⟨b, o, none⟩ = false) (hcell : ∀ i, i < 4 * n → ∃ v, w.cell? ⟨b, off + i, none⟩ = some v ∧ v.oneCell' = true) (hb : b < w.heap.size) :
    Calls Try.prog 97 #[.slice (some ⟨b, off, none⟩) n c, .int .i64 k] w fun e w' => e = .returned (.int .i64 (k + 4 * n)) ∧ At4 w' b off (marks4 k n) ∧ Only b w w' := by
  have HC : Hid (∀ i, i < 4 * n → ∃ v, w.cell? ⟨b, off + i, none⟩ = some v ∧ v.oneCell' = true) := hcell
  have HF : Hid (∀ o, w.frozen? ⟨b, o, none⟩ = false) := hfr
  clear hcell hfr
  go_enter Try.func97, Try.ntmps97
  go_wp2
  go_loopw [1, 5] (fun q i wr => ∃ j : Nat, j ≤ n ∧ i = .int .i64 j ∧ q = .int .i64 (k + 4 * j) ∧ At4 wr b off (marks4 k j) ∧ (∀ i, 4 * j ≤ i → wr.cell? ⟨b, off + i, none⟩ = w.cell? ⟨b, off + i, none⟩) ∧ Only b w wr) (fun _ i _ => n - (intOf i).toNat)
  case atStart => exact ⟨0, Nat.zero_le _, rfl, by simp, ⟨hb, by simp [marks4]⟩, fun _ _ => rfl, Only.refl _ _⟩
  case round =>
    obtain ⟨j, hj, rfl, rfl, hat, hrest, ho⟩ := hrel
    by_cases hlt : j < n
    · obtain ⟨v1, hv1, hv1'⟩ := HC.out (4 * j) (by omega)
      obtain ⟨v2, hv2, hv2'⟩ := HC.out (4 * j + 1) (by omega)
      obtain ⟨v3, hv3, hv3'⟩ := HC.out (4 * j + 2) (by omega)
      obtain ⟨v4, hv4, hv4'⟩ := HC.out (4 * j + 3) (by omega)
      have c1 : wr.cell? ⟨b, off + j * 4, none⟩ = some v1 := by rw [show off + j * 4 = off + 4 * j by omega, hrest _ (by omega)]; exact hv1
      have c2 : wr.cell? ⟨b, off + j * 4 + 1, none⟩ = some v2 := by rw [show off + j * 4 + 1 = off + (4 * j + 1) by omega, hrest _ (by omega)]; exact hv2
      have c3 : wr.cell? ⟨b, off + j * 4 + 2, none⟩ = some v3 := by rw [show off + j * 4 + 2 = off + (4 * j + 2) by omega, hrest _ (by omega)]; exact hv3
      have c4 : wr.cell? ⟨b, off + j * 4 + 3, none⟩ = some v4 := by rw [show off + j * 4 + 3 = off + (4 * j + 3) by omega, hrest _ (by omega)]; exact hv4
      have f1 : wr.frozen? ⟨b, off + j * 4, none⟩ = false := by rw [ho.frozen]; exact HF.out _
      have f2 : wr.frozen? ⟨b, off + j * 4 + 1, none⟩ = false := by rw [ho.frozen]; exact HF.out _
      have f3 : wr.frozen? ⟨b, off + j * 4 + 2, none⟩ = false := by rw [ho.frozen]; exact HF.out _
      have f4 : wr.frozen? ⟨b, off + j * 4 + 3, none⟩ = false := by rw [ho.frozen]; exact HF.out _
      have HR : Hid (∀ i, 4 * j ≤ i → wr.cell? ⟨b, off + i, none⟩ = w.cell? ⟨b, off + i, none⟩) := hrest
      have HA : Hid (At4 wr b off (marks4 k j)) := hat
      clear hrest hat hv1 hv2 hv3 hv4
      go_wp2
      go_roundw
      case rel =>
        refine ⟨j + 1, by omega, by go_num, ?_, ?_, ?_, (((ho.setCell _).setCell _).setCell _).setCell _⟩
        · go_num
        · refine ⟨by simpa [World.setCell] using HA.out.1, fun i hi => ?_⟩
          rw [marks4_length] at hi
          rw [marks4_getD _ _ _ hi]
          have P := put4 (.int .i64 (k + 4 * (j : Int))) (.int .i64 (k + 4 * (j : Int) + 1)) (.int .i64 (k + 4 * (j : Int) + 1 + 1)) (.int .i64 (k + 4 * (j : Int) + 1 + 1 + 1)) c1 c2 c3 c4
          by_cases e : i = j
          · subst e
            exact ⟨P.1, P.2.1, P.2.2.1, P.2.2.2.1⟩
          · have := HA.out.2 i (by rw [marks4_length]; omega)
            rw [marks4_getD _ _ _ (by omega)] at this
            rw [P.2.2.2.2 _ (by omega), P.2.2.2.2 _ (by omega), P.2.2.2.2 _ (by omega), P.2.2.2.2 _ (by omega)]
            exact this
        · intro i hi
          have P := put4 (.int .i64 (k + 4 * (j : Int))) (.int .i64 (k + 4 * (j : Int) + 1)) (.int .i64 (k + 4 * (j : Int) + 1 + 1)) (.int .i64 (k + 4 * (j : Int) + 1 + 1 + 1)) c1 c2 c3 c4
          rw [P.2.2.2.2 _ (by omega)]
          exact HR.out i (by omega)
      case measure => simp [intOf]; omega
    · go_wp2
      go_ret
      have : j = n := by omega
      subst this
      exact ⟨rfl, hat, ho⟩

/-- An empty slice, nil or not: nothing is marked. -/
theorem markInsS0 (a : Option Addr) (c : Nat) (k : Int) (w : World) :
    Calls Try.prog 97 #[.slice a 0 c, .int .i64 k] w fun e w' => e = .returned (.int .i64 k) ∧ w' = w := by
  go_enter Try.func97, Try.ntmps97
  go_wp2
  go_loop [1, 5] (fun q i => i = .int .i64 0 ∧ q = .int .i64 k) (fun _ i => 0)
  case atStart => exact ⟨rfl, rfl⟩
  case round =>
    obtain ⟨rfl, rfl⟩ := hrel
    go_wp2
    go_ret
    exact ⟨rfl, rfl⟩

end Go.Proofs.Ytgcencilgpilaaa.Own
