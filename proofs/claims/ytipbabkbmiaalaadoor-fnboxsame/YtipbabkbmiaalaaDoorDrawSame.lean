/-
  Own text: what spec.DrawBoxSame does.
-/
import Derived.Test.YtipbabkbmiaalaaDoorDraw
namespace Go.Proofs.YtipbabkbmiaalaaDoor.Own
open Go.RowKit
set_option linter.unusedVariables false

/-- Every number is at most so great. -/
def Sm3 (xs : List (Int × Int)) : Prop := ∀ k, k < xs.length → (-3000000 ≤ (xs.getD k (0, 0)).1 ∧ (xs.getD k (0, 0)).1 ≤ 3000000) ∧ (-3000000 ≤ (xs.getD k (0, 0)).2 ∧ (xs.getD k (0, 0)).2 ≤ 3000000)
theorem Sm.sm3 {xs : List (Int × Int)} (h : Sm xs) : Sm3 xs := fun k hk => by have := h k hk; omega
theorem Sm.set3 {xs : List (Int × Int)} (h : Sm xs) (i : Nat) (hi : i < xs.length) {v : Int × Int} (h1 : -3000000 ≤ v.1 ∧ v.1 ≤ 3000000) (h2 : -3000000 ≤ v.2 ∧ v.2 ≤ 3000000) : Sm3 (xs.set i v) := by
  intro k hk
  rw [List.length_set] at hk
  rw [getD_set _ _ _ _ hi]
  by_cases e : i = k
  · rw [if_pos e]; exact ⟨h1, h2⟩
  · rw [if_neg e]; exact h.sm3 k hk

set_option maxHeartbeats 2000000 in
theorem drawBoxSame (a : Option Addr) (n c : Nat) (w : World) (h : Bytes w w.heap.size a n) (hc : n ≤ c) (hm : c ≤ maxLen) :
    Calls Tryd.prog 17 #[.slice a n c] w fun e w' => ∃ (xs ys : List (Int × Int)) (o1 o2 : Nat), (xs.length ≤ 4 ∧ ys.length ≤ 4) ∧ e = .returned (.tuple #[.slice (some ⟨o1, 0, none⟩) xs.length 4, .slice (some ⟨o2, 0, none⟩) ys.length 4]) ∧ BoxAt w' o1 0 xs ∧ BoxAt w' o2 0 ys ∧ Sm3 xs ∧ Sm3 ys ∧ Below w.heap.size w w' := by
  have HB : Hid (Bytes w w.heap.size a n) := h
  have HM : Hid (c ≤ maxLen) := hm
  clear h hm
  go_enter Tryd.func17, Tryd.ntmps17
  go_wp2_with fail
  refine (l15Open a n c w HB.out hc HM.out).mono ?_
  rintro e w1 ⟨rfl, hR, hb⟩
  have HR : Hid (Rd w1 w.heap.size (w.heap.size + 1) 0) := hR
  have B1 : Hid (Below w.heap.size w w1) := hb
  clear hR hb
  go_wp2_with fail
  refine (l1Boxes w.heap.size (w.heap.size + 1) 0 w1 HR.out (by omega)).mono ?_
  rintro e w2 ⟨xs, hl, rfl, hat, hsm, hrow, _, hbar⟩
  have X2 : Hid (BoxAt w2 w1.heap.size 0 xs) := hat
  have SX : Hid (Sm xs) := hsm
  have LX : Hid (xs.length = 3 ∨ xs.length = 4) := hl
  have B2 : Hid (Below w.heap.size w w2) := B1.out.trans (hbar.below (Nat.le_refl _) B1.out.size)
  have hxl : xs.length ≤ 4 := by omega
  clear hat hsm hrow hbar hl
  have HB2 : Hid (Bytes w2 w2.heap.size a n) := by
    rcases HB.out with h | ⟨b, off, rfl, hb, hz⟩
    · exact .inl h
    · refine .inr ⟨b, off, rfl, Nat.lt_of_lt_of_le hb B2.out.size, fun i hi => ?_⟩
      rw [B2.out.cell (p := ⟨b, off + i, none⟩) hb]; exact hz i hi
  go_wp2_with fail
  refine (l15Open a n c w2 HB2.out hc HM.out).mono ?_
  rintro e w3 ⟨rfl, hR, hb⟩
  have HR3 : Hid (Rd w3 w2.heap.size (w2.heap.size + 1) 0) := hR
  have X3 : Hid (BoxAt w3 w1.heap.size 0 xs) := X2.out.below hb
  have B3 : Hid (Below w.heap.size w w3) := B2.out.trans (hb.mono B2.out.size)
  have HB3 : Hid (Bytes w3 w2.heap.size a n) := by
    rcases HB2.out with h | ⟨b, off, rfl, hb2, hz⟩
    · exact .inl h
    · refine .inr ⟨b, off, rfl, hb2, fun i hi => ?_⟩
      rw [hb.cell (p := ⟨b, off + i, none⟩) hb2]; exact hz i hi
  have S23 : Hid (w2.heap.size < w3.heap.size) := by have := HR3.out.2.1; show _ < _; omega
  clear hR hb
  go_wp2_with fail
  refine (l1Boxes w2.heap.size (w2.heap.size + 1) 0 w3 HR3.out (by omega)).mono ?_
  rintro e w4 ⟨ys, hl, rfl, hat, hsm, hrow, _, hbar⟩
  have X4 : Hid (BoxAt w4 w1.heap.size 0 xs) := hbar.at X3.out (by have := X2.out.1; omega)
  have Y4 : Hid (BoxAt w4 w3.heap.size 0 ys) := hat
  have SY : Hid (Sm ys) := hsm
  have RY : Hid (Row w4 w3.heap.size 4) := hrow
  have B4 : Hid (Below w.heap.size w w4) := B3.out.trans (hbar.below B2.out.size B3.out.size)
  have hyl : ys.length ≤ 4 := by omega
  have hy0 : 0 < ys.length := by omega
  have HB4 : Hid (Bytes w4 w2.heap.size a n) := by
    rcases HB3.out with h | ⟨b, off, rfl, hb2, hz⟩
    · exact .inl h
    · refine .inr ⟨b, off, rfl, hb2, fun i hi => ?_⟩
      have e : w4.cell? ⟨b, off + i, none⟩ = w3.cell? ⟨b, off + i, none⟩ := World.cell?_of_block (w := w3) (a := ⟨b, off + i, none⟩) (hbar.block b (by have := S23.out; omega) (by omega))
      rw [e]; exact hz i hi
  have ne13 : w1.heap.size ≠ w3.heap.size := by have := X3.out.1; omega
  clear hat hsm hrow hbar hl
  by_cases h0 : n = 0
  · have hz : (n : Int) ≤ 0 := by omega
    clear h0
    go_wp2_with fail
    go_ret2
    exact ⟨xs, ys, _, _, ⟨hxl, hyl⟩, rfl, X4.out, Y4.out, SX.out.sm3, SY.out.sm3, B4.out⟩
  · rcases HB4.out with h | ⟨b, off, rfl, hb2, hz⟩
    · exact absurd h h0
    obtain ⟨z, hz1, hz2⟩ := hz 0 (by omega)
    rw [Nat.add_zero] at hz2
    clear hz
    have hn0 : (0 : Int) < (n : Int) := by omega
    clear h0
    by_cases hodd : z % 2 = 1
    · have t : ((z : Int) % 2 == 1) = true := by simp; omega
      have c0 := (Y4.out.2 0 hy0).1
      simp only [Nat.zero_mul, Nat.add_zero] at c0
      have f0 := RY.out.frozen 0
      obtain ⟨v, hv⟩ : ∃ v, v = (ys.getD 0 (0, 0)).1 := ⟨_, rfl⟩
      rw [← hv] at c0
      have hvb : -2000000 ≤ v ∧ v ≤ 2000000 := by rw [hv]; exact (SY.out 0 hy0).1
      have HV : Hid (v = (ys.getD 0 (0, 0)).1) := hv
      clear hv
      obtain ⟨hv1, hv2⟩ := hvb
      have hy0' : (0 : Int) < (ys.length : Int) := by omega
      go_wp2_with fail
      go_ret2
      have h3 := Y4.out.setVer 0 hy0 (v + 1)
      simp only [Nat.zero_mul, Nat.add_zero] at h3
      refine ⟨xs, ys.set 0 (v + 1, (ys.getD 0 (0, 0)).2), _, _, ⟨hxl, by rw [List.length_set]; exact hyl⟩, by rw [List.length_set]; rfl, ?_, h3, SX.out.sm3, SY.out.set3 0 hy0 (by constructor <;> simp <;> omega) (SY.out.sm3 0 hy0).2, B4.out.setCell (Nat.le_trans B2.out.size (Nat.le_of_lt S23.out)) _⟩
      exact X4.out.only ((Only.refl _ _).setCell _) ne13
    · have t : ((z : Int) % 2 == 1) = false := by simp; omega
      go_wp2_with fail
      go_ret2
      exact ⟨xs, ys, _, _, ⟨hxl, hyl⟩, rfl, X4.out, Y4.out, SX.out.sm3, SY.out.sm3, B4.out⟩
end Go.Proofs.YtipbabkbmiaalaaDoor.Own
