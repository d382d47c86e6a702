/-
  Own text: laws.FnBoxSame.
-/
import Derived.Test.YtipbabkbmiaalaaDoorDrawSame
import Derived.Test.YtipbabkbmiaalaaDoorTextMath
import Derived.Test.YtipbabkbmiaalaaDoorTextImpl
import Derived.Test.YtipbabkbmiaalaaDoorSame
namespace Go.Proofs.YtipbabkbmiaalaaDoor.Own
open Go.RowKit
set_option linter.unusedVariables false

theorem Sm3.wf {xs : List (Int × Int)} (h : Sm3 xs) : Wf xs := fun k hk => by
  have := h k hk
  exact ⟨⟨by omega, by omega⟩, ⟨by omega, by omega⟩⟩

/-- Three lists of boxes, and what was there when the call began. -/
structure Three (w : World) (o1 o2 o3 : Nat) (xs ys zs : List (Int × Int)) (W : World) : Prop where
  x : BoxAt W o1 0 xs
  y : BoxAt W o2 0 ys
  z : BoxAt W o3 0 zs
  b : Below w.heap.size w W

theorem Three.step {w : World} {o1 o2 o3 : Nat} {xs ys zs : List (Int × Int)} {W W' : World} (h : Three w o1 o2 o3 xs ys zs W) (hb : Below W.heap.size W W') : Three w o1 o2 o3 xs ys zs W' :=
  ⟨h.x.below hb, h.y.below hb, h.z.below hb, h.b.trans (hb.mono h.b.size)⟩

theorem Bytes.below {w w' : World} {a : Option Addr} {n : Nat} (h : Bytes w w.heap.size a n) (hb : Below w.heap.size w w') : Bytes w' w'.heap.size a n := by
  rcases h with h | ⟨b, off, rfl, hl, hz⟩
  · exact .inl h
  · refine .inr ⟨b, off, rfl, Nat.lt_of_lt_of_le hl hb.size, fun i hi => ?_⟩
    rw [hb.cell (p := ⟨b, off + i, none⟩) hl]; exact hz i hi

theorem beq_sym (xs ys : List (Int × Int)) : (ys == xs) = (xs == ys) := by
  by_cases h : xs = ys
  · subst h; rfl
  · rw [beq_eq_false_iff_ne.2 h, beq_eq_false_iff_ne.2 (fun e => h e.symm)]

theorem bytes_ext {s t : ByteArray} (h : s.toList = t.toList) : s = t := by
  rw [ByteArray.toList_eq, ByteArray.toList_eq] at h
  obtain ⟨⟨x⟩⟩ := s
  obtain ⟨⟨y⟩⟩ := t
  have : x = y := h
  rw [this]

theorem toList_same (s t : ByteArray) : (s.toList == t.toList) = decide (s = t) := by
  by_cases h : s = t
  · subst h; simp
  · rw [beq_eq_false_iff_ne.2 (fun e => h (bytes_ext e)), decide_eq_false h]

set_option maxHeartbeats 2000000 in
theorem lawBoxSame (a1 : Option Addr) (n1 c1 : Nat) (a2 : Option Addr) (n2 c2 : Nat) (w : World) (ht : Tab w) (h1 : Bytes w w.heap.size a1 n1) (hc1 : n1 ≤ c1) (hm1 : c1 ≤ maxLen) (h2 : Bytes w w.heap.size a2 n2) (hc2 : n2 ≤ c2) (hm2 : c2 ≤ maxLen) :
    Calls Tryd.prog 4 #[.slice a1 n1 c1, .slice a2 n2 c2] w fun e w' => e = .returned (.bool true) ∧ Below w.heap.size w w' := by
  have HT : Hid (Tab w) := ht
  have H1 : Hid (Bytes w w.heap.size a1 n1) := h1
  have H2 : Hid (Bytes w w.heap.size a2 n2) := h2
  have M1 : Hid (c1 ≤ maxLen) := hm1
  have M2 : Hid (c2 ≤ maxLen) := hm2
  clear ht h1 h2
  unfold maxLen at hm1 hm2
  by_cases l1 : n1 ≤ 1048576
  · by_cases l2 : n2 ≤ 1048576
    · go_enter Tryd.func4, Tryd.ntmps4
      go_wp2_with fail
      refine (drawBoxSame a1 n1 c1 w H1.out hc1 M1.out).mono ?_
      rintro e w1 ⟨xs, ys, o1, o2, ⟨lx, ly⟩, rfl, hx, hy, sx, sy, hb⟩
      have X1 : Hid (BoxAt w1 o1 0 xs ∧ BoxAt w1 o2 0 ys ∧ Below w.heap.size w w1) := ⟨hx, hy, hb⟩
      have SX : Hid (Wf xs) := sx.wf
      have SY : Hid (Wf ys) := sy.wf
      clear hx hy sx sy hb
      go_wp2_with fail
      refine (drawBoxOk a2 n2 c2 w1 (H2.out.below X1.out.2.2) hc2 M2.out).mono ?_
      rintro e w2 ⟨zs, o3, hl, rfl, hz, sz, _, _, hb⟩
      have lz : zs.length ≤ 4 := by omega
      have SZ : Hid (Wf zs) := sz.sm3.wf
      have S2 : Hid (Three w o1 o2 o3 xs ys zs w2) := ⟨X1.out.1.below hb, X1.out.2.1.below hb, hz, X1.out.2.2.trans (hb.mono X1.out.2.2.size)⟩
      clear hl hz sz hb
      go_wp2_with fail
      refine (implSame _ _ 4 4 xs ys w2 (.inr ⟨_, _, rfl, S2.out.x⟩) (.inr ⟨_, _, rfl, S2.out.y⟩) lx ly (by omega)).mono ?_
      rintro e w3 ⟨rfl, hb⟩
      have S3 : Hid (Three w o1 o2 o3 xs ys zs w3) := S2.out.step hb
      clear hb
      go_wp2_with fail
      refine (specSame _ _ 4 4 xs ys w3 (.inr ⟨_, _, rfl, S3.out.x⟩) (.inr ⟨_, _, rfl, S3.out.y⟩) (by omega) (by omega)).mono ?_
      rintro e w4 ⟨rfl, hb⟩
      have S4 : Hid (Three w o1 o2 o3 xs ys zs w4) := S3.out.step hb
      clear hb
      obtain ⟨b1, hb1⟩ : ∃ b, b = (xs == ys) := ⟨_, rfl⟩
      have HB1 : Hid (b1 = (xs == ys)) := hb1
      rw [← hb1]
      clear hb1
      obtain ⟨b2, hb2⟩ : ∃ b, b = (xs == zs) := ⟨_, rfl⟩
      have HB2 : Hid (b2 = (xs == zs)) := hb2
      clear hb2
      go_wp2_with fail
      refine (implSame _ _ 4 4 xs zs w4 (.inr ⟨_, _, rfl, S4.out.x⟩) (.inr ⟨_, _, rfl, S4.out.z⟩) lx lz (by omega)).mono ?_
      rintro e w5 ⟨rfl, hb⟩
      rw [← HB2.out]
      have S5 : Hid (Three w o1 o2 o3 xs ys zs w5) := S4.out.step hb
      clear hb
      go_wp2_with fail
      refine (implSame _ _ 4 4 zs xs w5 (.inr ⟨_, _, rfl, S5.out.z⟩) (.inr ⟨_, _, rfl, S5.out.x⟩) lz lx (by omega)).mono ?_
      rintro e w6 ⟨rfl, hb⟩
      rw [beq_sym, ← HB2.out]
      have S6 : Hid (Three w o1 o2 o3 xs ys zs w6) := S5.out.step hb
      clear hb
      go_wp2_with fail
      refine (implSame _ _ 4 4 xs xs w6 (.inr ⟨_, _, rfl, S6.out.x⟩) (.inr ⟨_, _, rfl, S6.out.x⟩) lx lx (by omega)).mono ?_
      rintro e w7 ⟨rfl, hb⟩
      rw [show (xs == xs) = true from by simp]
      have S7 : Hid (Three w o1 o2 o3 xs ys zs w7) := S6.out.step hb
      clear hb
      go_wp2_with fail
      refine (implSame _ _ 4 4 xs ys w7 (.inr ⟨_, _, rfl, S7.out.x⟩) (.inr ⟨_, _, rfl, S7.out.y⟩) lx ly (by omega)).mono ?_
      rintro e w8 ⟨rfl, hb⟩
      rw [← HB1.out]
      have S8 : Hid (Three w o1 o2 o3 xs ys zs w8) := S7.out.step hb
      clear hb
      obtain ⟨tx, htx⟩ : ∃ t, t = str (textTo xs xs.length) := ⟨_, rfl⟩
      obtain ⟨ty, hty⟩ : ∃ t, t = str (textTo ys ys.length) := ⟨_, rfl⟩
      obtain ⟨tz, htz⟩ : ∃ t, t = str (textTo zs zs.length) := ⟨_, rfl⟩
      have e1 : (tx.toList == ty.toList) = b1 := by rw [toList_same, htx, hty, HB1.out, text_same]
      have e2 : (tx.toList == tz.toList) = b2 := by rw [toList_same, htx, htz, HB2.out, text_same]
      have TX : Hid (tx = str (textTo xs xs.length)) := htx
      have TY : Hid (ty = str (textTo ys ys.length)) := hty
      have TZ : Hid (tz = str (textTo zs zs.length)) := htz
      clear htx hty htz
      go_wp2_with fail
      refine (implText _ 4 xs w8 (.inr ⟨_, _, rfl, S8.out.x⟩) (by omega) SX.out (tab_below HT.out HT.out S8.out.b (Nat.le_refl _))).mono ?_
      rintro e w9 ⟨rfl, hb⟩
      rw [← TX.out]
      have S9 : Hid (Three w o1 o2 o3 xs ys zs w9) := S8.out.step hb
      clear hb
      go_wp2_with fail
      refine (implText _ 4 ys w9 (.inr ⟨_, _, rfl, S9.out.y⟩) (by omega) SY.out (tab_below HT.out HT.out S9.out.b (Nat.le_refl _))).mono ?_
      rintro e w10 ⟨rfl, hb⟩
      rw [← TY.out]
      have S10 : Hid (Three w o1 o2 o3 xs ys zs w10) := S9.out.step hb
      clear hb
      go_wp2_with fail
      refine (implSame _ _ 4 4 xs zs w10 (.inr ⟨_, _, rfl, S10.out.x⟩) (.inr ⟨_, _, rfl, S10.out.z⟩) lx lz (by omega)).mono ?_
      rintro e w11 ⟨rfl, hb⟩
      rw [← HB2.out]
      have S11 : Hid (Three w o1 o2 o3 xs ys zs w11) := S10.out.step hb
      clear hb
      go_wp2_with fail
      refine (implText _ 4 xs w11 (.inr ⟨_, _, rfl, S11.out.x⟩) (by omega) SX.out (tab_below HT.out HT.out S11.out.b (Nat.le_refl _))).mono ?_
      rintro e w12 ⟨rfl, hb⟩
      rw [← TX.out]
      have S12 : Hid (Three w o1 o2 o3 xs ys zs w12) := S11.out.step hb
      clear hb
      go_wp2_with fail
      refine (implText _ 4 zs w12 (.inr ⟨_, _, rfl, S12.out.z⟩) (by omega) SZ.out (tab_below HT.out HT.out S12.out.b (Nat.le_refl _))).mono ?_
      rintro e w13 ⟨rfl, hb⟩
      rw [← TZ.out]
      have S13 : Hid (Three w o1 o2 o3 xs ys zs w13) := S12.out.step hb
      clear hb
      go_wp2_with fail
      go_ret
      exact ⟨rfl, S13.out.b⟩
    · go_enter Tryd.func4, Tryd.ntmps4
      go_wp2_with fail
      go_ret
      exact ⟨rfl, Below.refl _ _⟩
  · go_enter Tryd.func4, Tryd.ntmps4
    go_wp2_with fail
    go_ret
    exact ⟨rfl, Below.refl _ _⟩
end Go.Proofs.YtipbabkbmiaalaaDoor.Own
