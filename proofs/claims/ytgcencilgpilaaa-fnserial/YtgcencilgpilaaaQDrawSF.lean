/-
  Own text: what spec.DrawSerialFree does.
-/
import Derived.Test.YtgcencilgpilaaaPk2
namespace Go.Proofs.Ytgcencilgpilaaa.Own
open Go.RowKit
set_option linter.unusedVariables false
set_option linter.unusedSimpArgs false

theorem At4.bar {w w' : World} {b off rb : Nat} {xs : List Q4} (h : At4 w b off xs) (hb : Bar rb w w') (hn : b ≠ rb) : At4 w' b off xs :=
  h.congr (Nat.lt_of_lt_of_le h.1 hb.size) (fun o => World.cell?_of_block (w := w) (a := ⟨b, o, none⟩) (hb.block b h.1 hn))

set_option maxHeartbeats 1000000 in
theorem drawSerialFree (a : Option Addr) (n c : Nat) (w : World) (h : Bytes w w.heap.size a n) (hc : n ≤ c) (hm : c ≤ maxLen) :
    Calls Try.prog 29 #[.slice a n c] w fun e w' => ∃ g1 cap1 xs g2 cap2 ys, e = .returned (.tuple #[.slice (some ⟨g1, 0, none⟩) xs.length cap1, .slice (some ⟨g2, 0, none⟩) ys.length cap2]) ∧ (At4 w' g1 0 xs ∧ At4 w' g2 0 ys) ∧ (xs.length ≤ 11 ∧ ys.length ≤ 11) ∧ Below w.heap.size w w' := by
  have HB : Hid (Bytes w w.heap.size a n) := h
  clear h
  go_enter Try.func29, Try.ntmps29
  go_wp2_with fail
  refine (l15Open a n c w HB.out hc hm).mono ?_
  rintro e w1 ⟨rfl, hR, hb⟩
  have HR : Hid (Rd w1 w.heap.size (w.heap.size + 1) 0) := hR
  have HB1 : Hid (Below w.heap.size w w1) := hb
  have S1 : Hid (w.heap.size + 1 ≤ w1.heap.size) := hR.2.1
  clear hR hb
  go_wp2_with fail
  refine (l2Bent w.heap.size (w.heap.size + 1) 0 w1 HR.out (by omega)).mono ?_
  rintro e w2 ⟨g1, cap1, xs, rfl, hown, hl, hsm, ⟨p', hp', hR2⟩, hbar⟩
  have F : Hid (w1.heap.size ≤ g1 ∧ At4 w2 g1 0 xs) := ⟨hown.cells.1, hown.cells.2.1⟩
  have HR2 : Hid (Rd w2 w.heap.size (w.heap.size + 1) p') := hR2
  have BR : Hid (Bar w.heap.size w1 w2) := hbar
  clear hown hsm hbar hR2
  go_wp2_with fail
  refine (l2Bent w.heap.size (w.heap.size + 1) p' w2 HR2.out (by omega)).mono ?_
  rintro e w3 ⟨g2, cap2, ys, rfl, hown, hl2, hsm, _, hbar⟩
  have F2 : Hid (At4 w3 g2 0 ys) := hown.cells.2.1
  have F1 : Hid (At4 w3 g1 0 xs) := F.out.2.bar hbar (by have := F.out.1; have := S1.out; omega)
  have BT : Hid (Below w.heap.size w w3) := HB1.out.trans ((BR.out.trans hbar).below (Nat.le_refl _) HB1.out.size)
  clear hown hsm hbar
  go_wp2
  go_ret2
  exact ⟨g1, cap1, xs, g2, cap2, ys, rfl, ⟨F1.out, F2.out⟩, ⟨hl, hl2⟩, BT.out⟩

end Go.Proofs.Ytgcencilgpilaaa.Own
