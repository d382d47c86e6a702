/-
  Own text, by program (gen_worldmark.py): the three nodes of a new world, held.
-/
import Derived.Test.YtfifiobcmdmefaaWorldMark
namespace Go.Proofs.Ytfifiobcmdmefaa.Own
open Go.RowKit
set_option linter.unusedVariables false
set_option linter.unusedSimpArgs false

set_option maxRecDepth 100000 in
set_option maxHeartbeats 16000000 in
theorem heldNodeS3 (g cap : Nat) (w : World) (L : List (List Value)) (h : NS w g L) (hL : MixN 3 L) (hc : 3 ≤ cap) :
    Calls Try.prog 76 #[.slice (some ⟨g, 0, none⟩) 3 cap, .int .i64 1] w fun e w' => e = .returned (.int .i64 49) ∧ Below w.heap.size w w' := by
  have H : Hid (NS w g L ∧ MixN 3 L) := ⟨h, hL⟩
  clear h hL
  go_enter Try.func76, Try.ntmps76
  go_wp2_with fail
  go_loopw [1, 5] (fun q i wr => ∃ (n : Nat) (k : Int), n ≤ 3 ∧ i = .int .i64 n ∧ q = .int .i64 k ∧ Hid (k = 1 + 16 * (n : Int)) ∧ Hid (Below w.heap.size w wr)) (fun _ i _ => 3 - (intOf i).toNat)
  case atStart => exact ⟨0, 1, by omega, rfl, rfl, rfl, Below.refl _ _⟩
  case round =>
    obtain ⟨n, k, hn, rfl, rfl, HK, HB⟩ := hrel
    by_cases hlt : n < 3
    · have hni : (n : Int) < 3 := by omega
      have kb : 1 ≤ k ∧ k ≤ 33 := by have := HK.out; omega
      obtain ⟨kb1, kb2⟩ := kb
      have C : Hid (∀ j, j < 27 → wr.cell? ⟨g, n * 27 + j, none⟩ = (mN k)[j]?) := fun j hj => by
        rw [(H.out.1.keep HB.out).cell n (by rw [H.out.2.1]; exact hlt) j hj, H.out.2.2 n hlt, if_pos hlt, HK.out]
      have c0 : wr.cell? ⟨g, n * 27, none⟩ = some (.int .i64 (k)) := by exact C.out 0 (by decide)
      have c1 : wr.cell? ⟨g, n * 27 + 1, none⟩ = some (.int .i64 (k + 1)) := by exact C.out 1 (by decide)
      have c2 : wr.cell? ⟨g, n * 27 + 2, none⟩ = some (.slice none 0 0) := C.out 2 (by decide)
      have c3 : wr.cell? ⟨g, n * 27 + 3, none⟩ = some (.slice none 0 0) := C.out 3 (by decide)
      have b0 : ¬ k + 1 + 1 < 0 := by omega
      go_wp2_with fail
      refine Calls.mono (heldVoteS0w (k + 1 + 1) _) ?_
      rintro e x ⟨rfl, hx⟩
      rw [hx]
      clear hx x
      go_wp2_with fail
      refine Calls.mono (heldEntryS0w (k + 1 + 1) _) ?_
      rintro e x ⟨rfl, hx⟩
      rw [hx]
      clear hx x
      clear c0 c1 c2 c3 b0
      obtain ⟨k1, hk⟩ : ∃ x, x = k + 1 + 1 := ⟨_, rfl⟩
      have Hk1 : Hid (k1 = k + 1 + 1) := hk
      rw [← hk]
      have bk1 : 1 ≤ k1 ∧ k1 ≤ 38 := by omega
      obtain ⟨bk1l, bk1h⟩ := bk1
      clear hk
      have c4 : wr.cell? ⟨g, n * 27 + 4, none⟩ = some (.int .i64 (k1)) := by rw [Hk1.out]; exact C.out 4 (by decide)
      have c5 : wr.cell? ⟨g, n * 27 + 5, none⟩ = some (.int .i64 (k1 + 1)) := by rw [Hk1.out]; exact C.out 5 (by decide)
      have c6 : wr.cell? ⟨g, n * 27 + 6, none⟩ = some (.int .i64 (k1 + 1 + 1)) := by rw [Hk1.out]; exact C.out 6 (by decide)
      have c7 : wr.cell? ⟨g, n * 27 + 7, none⟩ = some (.slice none 0 0) := C.out 7 (by decide)
      have c8 : wr.cell? ⟨g, n * 27 + 8, none⟩ = some (.slice none 0 0) := C.out 8 (by decide)
      have b1 : ¬ k1 + 1 + 1 + 1 < 0 := by omega
      go_wp2_with fail
      refine Calls.mono (heldBoolS0w (k1 + 1 + 1 + 1) _) ?_
      rintro e x ⟨rfl, hx⟩
      rw [hx]
      clear hx x
      go_wp2_with fail
      refine Calls.mono (heldVoteS0w (k1 + 1 + 1 + 1) _) ?_
      rintro e x ⟨rfl, hx⟩
      rw [hx]
      clear hx x
      clear c4 c5 c6 c7 c8 b1
      obtain ⟨k2, hk⟩ : ∃ x, x = k1 + 1 + 1 + 1 := ⟨_, rfl⟩
      have Hk2 : Hid (k2 = k1 + 1 + 1 + 1) := hk
      rw [← hk]
      have bk2 : 1 ≤ k2 ∧ k2 ≤ 42 := by omega
      obtain ⟨bk2l, bk2h⟩ := bk2
      clear hk
      have c9 : wr.cell? ⟨g, n * 27 + 9, none⟩ = some (.bool ((k2) % 3 == 0)) := by rw [Hk2.out, Hk1.out]; exact C.out 9 (by decide)
      have e9 : (((k2) % 3 == 0) != ((k2) % 3 == 0)) = false := by simp
      have c10 : wr.cell? ⟨g, n * 27 + 10, none⟩ = some (.int .i64 (k2 + 1)) := by rw [Hk2.out, Hk1.out]; exact C.out 10 (by decide)
      have c11 : wr.cell? ⟨g, n * 27 + 11, none⟩ = some (.int .i64 (k2 + 1 + 1)) := by rw [Hk2.out, Hk1.out]; exact C.out 11 (by decide)
      have c12 : wr.cell? ⟨g, n * 27 + 12, none⟩ = some (.slice none 0 0) := C.out 12 (by decide)
      have c13 : wr.cell? ⟨g, n * 27 + 13, none⟩ = some (.slice none 0 0) := C.out 13 (by decide)
      have b2 : ¬ k2 + 1 + 1 + 1 < 0 := by omega
      go_wp2_with fail
      refine Calls.mono (heldReadS0w (k2 + 1 + 1 + 1) _) ?_
      rintro e x ⟨rfl, hx⟩
      rw [hx]
      clear hx x
      go_wp2_with fail
      refine Calls.mono (heldPutS0w (k2 + 1 + 1 + 1) _) ?_
      rintro e x ⟨rfl, hx⟩
      rw [hx]
      clear hx x
      clear c9 c10 c11 c12 c13 e9 b2
      obtain ⟨k3, hk⟩ : ∃ x, x = k2 + 1 + 1 + 1 := ⟨_, rfl⟩
      have Hk3 : Hid (k3 = k2 + 1 + 1 + 1) := hk
      rw [← hk]
      have bk3 : 1 ≤ k3 ∧ k3 ≤ 46 := by omega
      obtain ⟨bk3l, bk3h⟩ := bk3
      clear hk
      have c14 : wr.cell? ⟨g, n * 27 + 14, none⟩ = some (.int .i64 (k3)) := by rw [Hk3.out, Hk2.out, Hk1.out]; exact C.out 14 (by decide)
      have c15 : wr.cell? ⟨g, n * 27 + 15, none⟩ = some (.int .i64 (k3 + 1)) := by rw [Hk3.out, Hk2.out, Hk1.out]; exact C.out 15 (by decide)
      have c16 : wr.cell? ⟨g, n * 27 + 16, none⟩ = some (.slice none 0 0) := C.out 16 (by decide)
      have b3 : ¬ k3 + 1 + 1 < 0 := by omega
      go_wp2_with fail
      refine Calls.mono (heldBoolS0w (k3 + 1 + 1) _) ?_
      rintro e x ⟨rfl, hx⟩
      rw [hx]
      clear hx x
      clear c14 c15 c16 b3
      obtain ⟨k4, hk⟩ : ∃ x, x = k3 + 1 + 1 := ⟨_, rfl⟩
      have Hk4 : Hid (k4 = k3 + 1 + 1) := hk
      rw [← hk]
      have bk4 : 1 ≤ k4 ∧ k4 ≤ 50 := by omega
      obtain ⟨bk4l, bk4h⟩ := bk4
      clear hk
      have c17 : wr.cell? ⟨g, n * 27 + 17, none⟩ = some (.bool ((k4) % 3 == 0)) := by rw [Hk4.out, Hk3.out, Hk2.out, Hk1.out]; exact C.out 17 (by decide)
      have e17 : (((k4) % 3 == 0) != ((k4) % 3 == 0)) = false := by simp
      have c18 : wr.cell? ⟨g, n * 27 + 18, none⟩ = some (.slice none 0 0) := C.out 18 (by decide)
      have b4 : ¬ k4 + 1 < 0 := by omega
      go_wp2_with fail
      refine Calls.mono (heldInsS0w (k4 + 1) _) ?_
      rintro e x ⟨rfl, hx⟩
      rw [hx]
      clear hx x
      clear c17 c18 e17 b4
      obtain ⟨k5, hk⟩ : ∃ x, x = k4 + 1 := ⟨_, rfl⟩
      have Hk5 : Hid (k5 = k4 + 1) := hk
      rw [← hk]
      have bk5 : 1 ≤ k5 ∧ k5 ≤ 54 := by omega
      obtain ⟨bk5l, bk5h⟩ := bk5
      clear hk
      have c19 : wr.cell? ⟨g, n * 27 + 19, none⟩ = some (.bool ((k5) % 3 == 0)) := by rw [Hk5.out, Hk4.out, Hk3.out, Hk2.out, Hk1.out]; exact C.out 19 (by decide)
      have e19 : (((k5) % 3 == 0) != ((k5) % 3 == 0)) = false := by simp
      have c20 : wr.cell? ⟨g, n * 27 + 20, none⟩ = some (.int .i64 (k5 + 1)) := by rw [Hk5.out, Hk4.out, Hk3.out, Hk2.out, Hk1.out]; exact C.out 20 (by decide)
      have c21 : wr.cell? ⟨g, n * 27 + 21, none⟩ = some (.int .i64 (k5 + 1 + 1)) := by rw [Hk5.out, Hk4.out, Hk3.out, Hk2.out, Hk1.out]; exact C.out 21 (by decide)
      have c22 : wr.cell? ⟨g, n * 27 + 22, none⟩ = some (.slice none 0 0) := C.out 22 (by decide)
      have c23 : wr.cell? ⟨g, n * 27 + 23, none⟩ = some (.slice none 0 0) := C.out 23 (by decide)
      have b5 : ¬ k5 + 1 + 1 + 1 < 0 := by omega
      go_wp2_with fail
      refine Calls.mono (heldReadS0w (k5 + 1 + 1 + 1) _) ?_
      rintro e x ⟨rfl, hx⟩
      rw [hx]
      clear hx x
      go_wp2_with fail
      refine Calls.mono (heldPutS0w (k5 + 1 + 1 + 1) _) ?_
      rintro e x ⟨rfl, hx⟩
      rw [hx]
      clear hx x
      clear c19 c20 c21 c22 c23 e19 b5
      obtain ⟨k6, hk⟩ : ∃ x, x = k5 + 1 + 1 + 1 := ⟨_, rfl⟩
      have Hk6 : Hid (k6 = k5 + 1 + 1 + 1) := hk
      rw [← hk]
      have bk6 : 1 ≤ k6 ∧ k6 ≤ 58 := by omega
      obtain ⟨bk6l, bk6h⟩ := bk6
      clear hk
      have c24 : wr.cell? ⟨g, n * 27 + 24, none⟩ = some (.int .i64 (k6)) := by rw [Hk6.out, Hk5.out, Hk4.out, Hk3.out, Hk2.out, Hk1.out]; exact C.out 24 (by decide)
      have c25 : wr.cell? ⟨g, n * 27 + 25, none⟩ = some (.int .i64 (k6 + 1)) := by rw [Hk6.out, Hk5.out, Hk4.out, Hk3.out, Hk2.out, Hk1.out]; exact C.out 25 (by decide)
      have c26 : wr.cell? ⟨g, n * 27 + 26, none⟩ = some (.slice none 0 0) := C.out 26 (by decide)
      have b6 : ¬ k6 + 1 + 1 < 0 := by omega
      go_wp2_with fail
      refine Calls.mono (heldEntryS0w (k6 + 1 + 1) _) ?_
      rintro e x ⟨rfl, hx⟩
      rw [hx]
      clear hx x
      clear c24 c25 c26 b6
      have NK : Hid (k6 + 1 + 1 = 1 + 16 * ((n + 1 : Nat) : Int)) := by
        show _ = _
        have := HK.out
        have := Hk1.out; have := Hk2.out; have := Hk3.out; have := Hk4.out; have := Hk5.out; have := Hk6.out
        omega
      have bL : ¬ k6 + 1 + 1 < 0 := by omega
      go_wp2_with fail
      go_roundw
      case rel => exact ⟨n + 1, _, by omega, by go_num, rfl, NK.out, HB.out⟩
      case measure => simp [intOf]; omega
    · have hni : ¬ (n : Int) < 3 := by omega
      have HE : k = 49 := by have := HK.out; omega
      subst HE
      go_wp2_with fail
      go_ret
      exact ⟨rfl, HB.out⟩
end Go.Proofs.Ytfifiobcmdmefaa.Own
