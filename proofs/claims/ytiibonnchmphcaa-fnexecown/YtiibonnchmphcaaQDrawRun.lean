/-
  Own text: what spec.DrawExecRun and spec.DrawSerialOne do.
-/
import Derived.Test.YtiibonnchmphcaaQDraw
import Derived.Test.YtiibonnchmphcaaQDrawBent
namespace Go.Proofs.Ytiibonnchmphcaa.Own
open Go.RowKit
set_option linter.unusedVariables false
set_option linter.unusedSimpArgs false

theorem At4.bar' {w w' : World} {b off rb : Nat} {xs : List Q4} (h : At4 w b off xs) (hb : Bar rb w w') (hn : b ≠ rb) : At4 w' b off xs :=
  h.congr (Nat.lt_of_lt_of_le h.1 hb.size) (fun o => World.cell?_of_block (w := w) (a := ⟨b, o, none⟩) (hb.block b h.1 hn))
theorem BoxAt.bar {w w' : World} {b off rb : Nat} {xs : List (Int × Int)} (h : BoxAt w b off xs) (hb : Bar rb w w') (hn : b ≠ rb) : BoxAt w' b off xs := by
  have e : ∀ o, w'.cell? ⟨b, o, none⟩ = w.cell? ⟨b, o, none⟩ := fun o => World.cell?_of_block (w := w) (a := ⟨b, o, none⟩) (hb.block b h.1 hn)
  exact ⟨Nat.lt_of_lt_of_le h.1 hb.size, fun i hi => by rw [e, e]; exact h.2 i hi⟩

/-- Drawn boxes and a drawn program. -/
def DrawnBP (w w' : World) (e : Ending) : Prop := ∃ gb bs g cap xs, e = .returned (.tuple #[.slice (some ⟨gb, 0, none⟩) (List.length (α := Int × Int) bs) 4, .slice (some ⟨g, 0, none⟩) (List.length (α := Q4) xs) cap]) ∧ (bs.length ≤ 4 ∧ xs.length ≤ 11) ∧ (BoxAt w' gb 0 bs ∧ At4 w' g 0 xs) ∧ Below w.heap.size w w'

set_option maxHeartbeats 1000000 in
theorem drawExecRun (a : Option Addr) (n c : Nat) (w : World) (h : Bytes w w.heap.size a n) (hc : n ≤ c) (hm : c ≤ maxLen) :
    Calls Try.prog 15 #[.slice a n c] w fun e w' => DrawnBP w w' e := by
  have HB : Hid (Bytes w w.heap.size a n) := h
  clear h
  go_enter Try.func15, Try.ntmps15
  go_wp2_with fail
  refine (l15Open a n c w HB.out hc hm).mono ?_
  rintro e w1 ⟨rfl, hR, hb⟩
  have HR : Hid (Rd w1 w.heap.size (w.heap.size + 1) 0) := hR
  have HB1 : Hid (Below w.heap.size w w1) := hb
  have S1 : Hid (w.heap.size + 1 ≤ w1.heap.size) := hR.2.1
  clear hR hb
  go_wp2_with fail
  refine (l1Boxes w.heap.size (w.heap.size + 1) 0 w1 HR.out (by omega)).mono ?_
  rintro e w2 ⟨bs, hl, rfl, hat, _, _, ⟨p', hp', hR2⟩, hbar⟩
  have F : Hid (BoxAt w2 w1.heap.size 0 bs) := hat
  have HR2 : Hid (Rd w2 w.heap.size (w.heap.size + 1) p') := hR2
  have BR : Hid (Bar w.heap.size w1 w2) := hbar
  have lb : Hid (bs.length ≤ 4) := by show _ ≤ _; omega
  clear hat hbar hR2 hl
  go_wp2_with fail
  refine (l2Bent w.heap.size (w.heap.size + 1) p' w2 HR2.out (by omega)).mono ?_
  rintro e w3 ⟨g2, cap2, ys, rfl, hown, hl2, hsm, _, hbar⟩
  have FIN : Hid (DrawnBP w w3 (.returned (.tuple #[.slice (some ⟨w1.heap.size, 0, none⟩) bs.length 4, .slice (some ⟨g2, 0, none⟩) ys.length cap2]))) :=
    ⟨_, bs, g2, cap2, ys, rfl, ⟨lb.out, hl2⟩, ⟨F.out.bar hbar (by have := S1.out; omega), hown.cells.2.1⟩, HB1.out.trans ((BR.out.trans hbar).below (Nat.le_refl _) HB1.out.size)⟩
  clear hown hsm hbar
  go_wp2
  go_ret2
  exact FIN.out

set_option maxHeartbeats 1000000 in
theorem drawSerialOne (a : Option Addr) (n c : Nat) (w : World) (h : Bytes w w.heap.size a n) (hc : n ≤ c) (hm : c ≤ maxLen) :
    Calls Try.prog 41 #[.slice a n c] w fun e w' => DrawnBP w w' e := by
  have DR : Hid (Calls Try.prog 15 #[.slice a n c] w fun e w' => DrawnBP w w' e) := drawExecRun a n c w h hc hm
  clear h
  go_enter Try.func41, Try.ntmps41
  go_wp2_with fail
  refine Calls.mono DR.out ?_
  rintro e w1 ⟨gb, bs, g, cap, xs, rfl, r⟩
  have R : Hid _ := r
  clear r
  go_wp2
  go_ret2
  exact ⟨gb, bs, g, cap, xs, rfl, R.out⟩
end Go.Proofs.Ytiibonnchmphcaa.Own
