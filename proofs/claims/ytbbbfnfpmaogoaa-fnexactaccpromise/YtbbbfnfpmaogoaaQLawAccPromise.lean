/-
  Own text, by program (gen_lawprom.py): laws.FnExactAccPromise.
-/
import Derived.Test.YtbbbfnfpmaogoaaQPromR
import Derived.Deep.Cut
import Derived.Deep.CutRange
namespace Go.Proofs.Ytbbbfnfpmaogoaa.Own
open Go.RowKit
set_option linter.unusedVariables false
set_option linter.unusedSimpArgs false

set_option maxRecDepth 100000 in
set_option maxHeartbeats 1500000 in
theorem lawAccPromise (m : Int) (a : Option Addr) (c : Nat) (vs : List VM) (bal : Int) (w : World) (h1 : SlV w a vs) (n1 : vs.length ≤ maxLen) (m1 : VM0 vs) :
    Calls Try.prog 5 #[.agg #[.int .i64 m, .slice a vs.length c], .int .i64 bal] w fun e w' => e = .returned (.bool true) ∧ Below w.heap.size w w' := by
  have HA0 : Hid (SlV w a vs) := h1
  have M1 : Hid (VM0 vs) := m1
  have N1 : Hid (vs.length ≤ maxLen) := n1
  clear h1 m1 n1
  obtain ⟨s1, hs1⟩ : ∃ s, s = vs.length + sumV vs vs.length := ⟨_, rfl⟩
  have HS1 : Hid (s1 = vs.length + sumV vs vs.length) := hs1
  clear hs1
  obtain ⟨U, hU⟩ : ∃ U, U = w.alloc (.cells #[.int .i64 m, .slice a vs.length c] 44) := ⟨_, rfl⟩
  have HU : Hid (U = _) := hU
  have BU : Hid (Below w.heap.size w U) := by show Below _ _ _; rw [hU]; exact (Below.refl _ _).alloc (Nat.le_refl _) _
  have PU : Hid (Blk U w.heap.size #[.int .i64 m, .slice a vs.length c] 44) := by show Blk _ _ _ _; rw [hU]; exact Blk.new _ _ _
  clear hU
  have CZ1 : Hid (Calls Try.prog 19 #[.agg #[.int .i64 m, .slice a vs.length c], .int .i64 1048576] U fun e w'' => e = .returned (.int .i64 (if (1048576 : Int) < (s1 : Nat) then -1 else 1048576 - (s1 : Nat))) ∧ Below U.heap.size U w'') := by
    show Calls _ _ _ _ _
    rw [HS1.out]
    exact szAcc m a c vs 1048576 U (HA0.out.below BU.out) N1.out M1.out (by decide) (by decide)
  obtain ⟨q0, q1'⟩ := PU.out.cells2
  by_cases hn : s1 ≤ 1048576
  case neg =>
    have F : (if (1048576 : Int) < (s1 : Nat) then (-1 : Int) else 1048576 - (s1 : Nat)) = -1 := if_pos (by omega)
    rw [F] at CZ1
    clear F hn
    go_enter Try.func5, Try.ntmps5
    go_upto_region 2 with fail
    rw [← HU.out]
    go_wp2_with fail
    refine Calls.mono CZ1.out ?_
    rintro e w1 ⟨rfl, b1⟩
    have B1 : Hid (Below w.heap.size w w1) := BU.out.trans (b1.mono BU.out.size)
    clear b1
    go_wp2_with fail
    go_ret
    exact ⟨rfl, B1.out⟩
  have F : (if (1048576 : Int) < (s1 : Nat) then (-1 : Int) else 1048576 - (s1 : Nat)) = 1048576 - (s1 : Nat) := if_neg (by omega)
  rw [F] at CZ1
  clear F
  obtain ⟨z, hz⟩ : ∃ z : Int, z = 1048576 - (s1 : Nat) := ⟨_, rfl⟩
  rw [← hz] at CZ1
  have hz0 : ¬ z < 0 := by omega
  have SA : Hid (Short (2 ^ 21) (bodies vs)) := (Short.of (n := s1) (Nat.le_of_eq HS1.out.symm)).mono (by omega)
  have NA : vs.length ≤ 2 ^ 21 := by have := HS1.out; omega
  have ND : sumV vs vs.length ≤ 2 ^ 21 := by have := HS1.out; omega
  have cs := promS m bal (bodies vs)
  have ci := promI m bal (bodies vs)
  unfold PromT at cs ci
  have SB : Hid (Short (2 ^ 21) (prB m (bodies vs))) := prB_short SA.out
  have BL : Hid ((prB m (bodies vs)).length ≤ 41) := Nat.le_trans (prB_len _ _) (by decide)
  generalize prM m bal (bodies vs) = M at cs ci
  generalize prB m (bodies vs) = BB at cs ci SB BL
  generalize prO m bal (bodies vs) = OO at cs ci
  have CS : Hid _ := cs
  have CI : Hid _ := ci
  clear hn hz cs ci
  go_enter Try.func5, Try.ntmps5
  go_upto_region 2 with fail
  rw [← HU.out]
  go_wp2_with fail
  refine Calls.mono CZ1.out ?_
  rintro e u0 ⟨rfl, b1⟩
  have BW : Hid (Below w.heap.size w u0) := BU.out.trans (b1.mono BU.out.size)
  have PA : Hid (Blk u0 w.heap.size #[.int .i64 m, .slice a vs.length c] 44) := PU.out.keep b1
  have HA : Hid (SlV u0 a vs) := HA0.out.below BW.out
  have ZZ : Hid (w.heap.size + 1 ≤ u0.heap.size) := by show _ ≤ _; have := PA.out.lt; omega
  clear b1 CZ1 q0 q1'
  obtain ⟨a_0, a_1⟩ := PA.out.cells2
  go_wp2_with fail
  refine (toAR m a c vs u0 HA.out (by omega) (SA.out.mono (by decide))).mono ?_
  rintro e u1 ⟨p0, Lp0, rfl, o_, y_, l_, b_⟩
  have ZZ : Hid (w.heap.size + 1 ≤ u0.heap.size ∧ u0.heap.size ≤ u1.heap.size) := by show w.heap.size + 1 ≤ u0.heap.size ∧ u0.heap.size ≤ u1.heap.size; have := ZZ.out; have := b_.size; omega
  have HA : Hid (SlV u1 a vs) := HA.out.below b_
  have PA : Hid (Blk u1 w.heap.size #[.int .i64 m, .slice a vs.length c] 44) := PA.out.keep b_
  have Op0 : Hid (OwnR u1 u0.heap.size u1.heap.size p0 Lp0) := o_
  have Yp0 : Hid (bodies Lp0 = bodies vs) := y_
  have Vp0 : Hid (VLs Lp0) := l_
  have BW : Hid (Below w.heap.size w u1) := BW.out.trans (b_.mono BW.out.size)
  clear b_ o_ y_ l_ a_0 a_1
  go_wp2_with fail
  refine ((CS.out) u1 _ _ _ Lp0 Op0.out Vp0.out (by have := (bodies_eq Yp0.out).1; omega) Yp0.out).mono ?_
  rintro e u2 ⟨avS, cvS, LvS, rfl, o_, y_, b_⟩
  have ZZ : Hid (w.heap.size + 1 ≤ u0.heap.size ∧ u0.heap.size ≤ u1.heap.size ∧ u1.heap.size ≤ u2.heap.size) := by show w.heap.size + 1 ≤ u0.heap.size ∧ u0.heap.size ≤ u1.heap.size ∧ u1.heap.size ≤ u2.heap.size; have := ZZ.out; have := b_.size; omega
  have HA : Hid (SlV u2 a vs) := HA.out.below b_
  have PA : Hid (Blk u2 w.heap.size #[.int .i64 m, .slice a vs.length c] 44) := PA.out.keep b_
  have Op0 : Hid (OwnR u2 u0.heap.size u1.heap.size p0 Lp0) := Op0.out.keep b_
  have OvS : Hid (OwnR u2 u1.heap.size u2.heap.size (.slice avS LvS.length cvS) LvS) := o_
  have YvS : Hid (bodies LvS = BB) := y_
  have BW : Hid (Below w.heap.size w u2) := BW.out.trans (b_.mono BW.out.size)
  clear b_ o_ y_
  clear Op0 Yp0 Vp0
  go_upto_region 6 with fail
  obtain ⟨u3, h_⟩ : ∃ x, x = u2.alloc (.cells #[.int .i64 M, .slice avS LvS.length cvS] 24) := ⟨_, rfl⟩
  rw [← h_]
  have b_ : Below u2.heap.size u2 u3 := by rw [h_]; exact (Below.refl _ _).alloc (Nat.le_refl _) _
  have n_ : Blk u3 u2.heap.size #[.int .i64 M, .slice avS LvS.length cvS] 24 := by rw [h_]; exact Blk.new _ _ _
  clear h_
  have ZZ : Hid (w.heap.size + 1 ≤ u0.heap.size ∧ u0.heap.size ≤ u1.heap.size ∧ u1.heap.size ≤ u2.heap.size ∧ u2.heap.size + 1 ≤ u3.heap.size) := by show w.heap.size + 1 ≤ u0.heap.size ∧ u0.heap.size ≤ u1.heap.size ∧ u1.heap.size ≤ u2.heap.size ∧ u2.heap.size + 1 ≤ u3.heap.size; have := ZZ.out; have := n_.lt; omega
  have HA : Hid (SlV u3 a vs) := HA.out.below b_
  have PA : Hid (Blk u3 w.heap.size #[.int .i64 m, .slice a vs.length c] 44) := PA.out.keep b_
  have OvS : Hid (OwnR u3 u1.heap.size u2.heap.size (.slice avS LvS.length cvS) LvS) := OvS.out.keep b_
  have BS : Hid (Blk u3 u2.heap.size #[.int .i64 M, .slice avS LvS.length cvS] 24) := n_
  have BW : Hid (Below w.heap.size w u3) := BW.out.trans (b_.mono BW.out.size)
  clear b_ n_
  obtain ⟨a_0, a_1⟩ := PA.out.cells2
  go_wp2_with fail
  refine (toAR m a c vs u3 HA.out (by omega) (SA.out.mono (by decide))).mono ?_
  rintro e u4 ⟨x0, Lx0, rfl, o_, y_, l_, b_⟩
  have ZZ : Hid (w.heap.size + 1 ≤ u0.heap.size ∧ u0.heap.size ≤ u1.heap.size ∧ u1.heap.size ≤ u2.heap.size ∧ u2.heap.size + 1 ≤ u3.heap.size ∧ u3.heap.size ≤ u4.heap.size) := by show w.heap.size + 1 ≤ u0.heap.size ∧ u0.heap.size ≤ u1.heap.size ∧ u1.heap.size ≤ u2.heap.size ∧ u2.heap.size + 1 ≤ u3.heap.size ∧ u3.heap.size ≤ u4.heap.size; have := ZZ.out; have := b_.size; omega
  have HA : Hid (SlV u4 a vs) := HA.out.below b_
  have PA : Hid (Blk u4 w.heap.size #[.int .i64 m, .slice a vs.length c] 44) := PA.out.keep b_
  have OvS : Hid (OwnR u4 u1.heap.size u2.heap.size (.slice avS LvS.length cvS) LvS) := OvS.out.keep b_
  have BS : Hid (Blk u4 u2.heap.size #[.int .i64 M, .slice avS LvS.length cvS] 24) := BS.out.keep b_
  have Ox0 : Hid (OwnR u4 u3.heap.size u4.heap.size x0 Lx0) := o_
  have Yx0 : Hid (bodies Lx0 = bodies vs) := y_
  have Vx0 : Hid (VLs Lx0) := l_
  have BW : Hid (Below w.heap.size w u4) := BW.out.trans (b_.mono BW.out.size)
  clear b_ o_ y_ l_ a_0 a_1
  obtain ⟨ax0, cx0, rfl, _⟩ := Ox0.out.form
  go_upto_region 7 with fail
  obtain ⟨u5, h_⟩ : ∃ x, x = u4.alloc (.cells #[.int .i64 m, .slice ax0 Lx0.length cx0] 24) := ⟨_, rfl⟩
  rw [← h_]
  have b_ : Below u4.heap.size u4 u5 := by rw [h_]; exact (Below.refl _ _).alloc (Nat.le_refl _) _
  have n_ : Blk u5 u4.heap.size #[.int .i64 m, .slice ax0 Lx0.length cx0] 24 := by rw [h_]; exact Blk.new _ _ _
  clear h_
  have ZZ : Hid (w.heap.size + 1 ≤ u0.heap.size ∧ u0.heap.size ≤ u1.heap.size ∧ u1.heap.size ≤ u2.heap.size ∧ u2.heap.size + 1 ≤ u3.heap.size ∧ u3.heap.size ≤ u4.heap.size ∧ u4.heap.size + 1 ≤ u5.heap.size) := by show w.heap.size + 1 ≤ u0.heap.size ∧ u0.heap.size ≤ u1.heap.size ∧ u1.heap.size ≤ u2.heap.size ∧ u2.heap.size + 1 ≤ u3.heap.size ∧ u3.heap.size ≤ u4.heap.size ∧ u4.heap.size + 1 ≤ u5.heap.size; have := ZZ.out; have := n_.lt; omega
  have HA : Hid (SlV u5 a vs) := HA.out.below b_
  have PA : Hid (Blk u5 w.heap.size #[.int .i64 m, .slice a vs.length c] 44) := PA.out.keep b_
  have OvS : Hid (OwnR u5 u1.heap.size u2.heap.size (.slice avS LvS.length cvS) LvS) := OvS.out.keep b_
  have BS : Hid (Blk u5 u2.heap.size #[.int .i64 M, .slice avS LvS.length cvS] 24) := BS.out.keep b_
  have Ox0 : Hid (OwnR u5 u3.heap.size u4.heap.size (.slice ax0 Lx0.length cx0) Lx0) := Ox0.out.keep b_
  have BX : Hid (Blk u5 u4.heap.size #[.int .i64 m, .slice ax0 Lx0.length cx0] 24) := n_
  have BW : Hid (Below w.heap.size w u5) := BW.out.trans (b_.mono BW.out.size)
  clear b_ n_
  obtain ⟨e_0, e_1⟩ := BX.out.cells2
  go_wp2_with fail
  refine ((CI.out) u5 _ _ _ Lx0 Ox0.out Vx0.out (by have := (bodies_eq Yx0.out).1; omega) Yx0.out).mono ?_
  rintro e u6 ⟨avG, cvG, LvG, rfl, o_, y_, b_⟩
  have ZZ : Hid (w.heap.size + 1 ≤ u0.heap.size ∧ u0.heap.size ≤ u1.heap.size ∧ u1.heap.size ≤ u2.heap.size ∧ u2.heap.size + 1 ≤ u3.heap.size ∧ u3.heap.size ≤ u4.heap.size ∧ u4.heap.size + 1 ≤ u5.heap.size ∧ u5.heap.size ≤ u6.heap.size) := by show w.heap.size + 1 ≤ u0.heap.size ∧ u0.heap.size ≤ u1.heap.size ∧ u1.heap.size ≤ u2.heap.size ∧ u2.heap.size + 1 ≤ u3.heap.size ∧ u3.heap.size ≤ u4.heap.size ∧ u4.heap.size + 1 ≤ u5.heap.size ∧ u5.heap.size ≤ u6.heap.size; have := ZZ.out; have := b_.size; omega
  have HA : Hid (SlV u6 a vs) := HA.out.below b_
  have PA : Hid (Blk u6 w.heap.size #[.int .i64 m, .slice a vs.length c] 44) := PA.out.keep b_
  have OvS : Hid (OwnR u6 u1.heap.size u2.heap.size (.slice avS LvS.length cvS) LvS) := OvS.out.keep b_
  have BS : Hid (Blk u6 u2.heap.size #[.int .i64 M, .slice avS LvS.length cvS] 24) := BS.out.keep b_
  have Ox0 : Hid (OwnR u6 u3.heap.size u4.heap.size (.slice ax0 Lx0.length cx0) Lx0) := Ox0.out.keep b_
  have BX : Hid (Blk u6 u4.heap.size #[.int .i64 m, .slice ax0 Lx0.length cx0] 24) := BX.out.keep b_
  have OvG : Hid (OwnR u6 u5.heap.size u6.heap.size (.slice avG LvG.length cvG) LvG) := o_
  have YvG : Hid (bodies LvG = BB) := y_
  have BW : Hid (Below w.heap.size w u6) := BW.out.trans (b_.mono BW.out.size)
  clear b_ o_ y_ e_0 e_1
  go_upto_region 8 with fail
  obtain ⟨u7, h_⟩ : ∃ x, x = u6.alloc (.cells #[.int .i64 M, .slice avG LvG.length cvG] 24) := ⟨_, rfl⟩
  rw [← h_]
  have b_ : Below u6.heap.size u6 u7 := by rw [h_]; exact (Below.refl _ _).alloc (Nat.le_refl _) _
  have n_ : Blk u7 u6.heap.size #[.int .i64 M, .slice avG LvG.length cvG] 24 := by rw [h_]; exact Blk.new _ _ _
  clear h_
  have ZZ : Hid (w.heap.size + 1 ≤ u0.heap.size ∧ u0.heap.size ≤ u1.heap.size ∧ u1.heap.size ≤ u2.heap.size ∧ u2.heap.size + 1 ≤ u3.heap.size ∧ u3.heap.size ≤ u4.heap.size ∧ u4.heap.size + 1 ≤ u5.heap.size ∧ u5.heap.size ≤ u6.heap.size ∧ u6.heap.size + 1 ≤ u7.heap.size) := by show w.heap.size + 1 ≤ u0.heap.size ∧ u0.heap.size ≤ u1.heap.size ∧ u1.heap.size ≤ u2.heap.size ∧ u2.heap.size + 1 ≤ u3.heap.size ∧ u3.heap.size ≤ u4.heap.size ∧ u4.heap.size + 1 ≤ u5.heap.size ∧ u5.heap.size ≤ u6.heap.size ∧ u6.heap.size + 1 ≤ u7.heap.size; have := ZZ.out; have := n_.lt; omega
  have HA : Hid (SlV u7 a vs) := HA.out.below b_
  have PA : Hid (Blk u7 w.heap.size #[.int .i64 m, .slice a vs.length c] 44) := PA.out.keep b_
  have OvS : Hid (OwnR u7 u1.heap.size u2.heap.size (.slice avS LvS.length cvS) LvS) := OvS.out.keep b_
  have BS : Hid (Blk u7 u2.heap.size #[.int .i64 M, .slice avS LvS.length cvS] 24) := BS.out.keep b_
  have Ox0 : Hid (OwnR u7 u3.heap.size u4.heap.size (.slice ax0 Lx0.length cx0) Lx0) := Ox0.out.keep b_
  have BX : Hid (Blk u7 u4.heap.size #[.int .i64 m, .slice ax0 Lx0.length cx0] 24) := BX.out.keep b_
  have OvG : Hid (OwnR u7 u5.heap.size u6.heap.size (.slice avG LvG.length cvG) LvG) := OvG.out.keep b_
  have BG : Hid (Blk u7 u6.heap.size #[.int .i64 M, .slice avG LvG.length cvG] 24) := n_
  have BW : Hid (Below w.heap.size w u7) := BW.out.trans (b_.mono BW.out.size)
  clear b_ n_
  obtain ⟨x_0, x_1⟩ := BG.out.cells2
  obtain ⟨y_0, y_1⟩ := BS.out.cells2
  go_wp2_with fail
  refine (eqAR M _ _ _ _ _ _ LvG LvS u7 OvG.out OvS.out (YvG.out.trans YvS.out.symm) (by have := (steps40 YvG.out BL.out SB.out).1; omega) (vl0_short YvG.out SB.out)).mono ?_
  rintro e u8 ⟨rfl, b_⟩
  have ZZ : Hid (w.heap.size + 1 ≤ u0.heap.size ∧ u0.heap.size ≤ u1.heap.size ∧ u1.heap.size ≤ u2.heap.size ∧ u2.heap.size + 1 ≤ u3.heap.size ∧ u3.heap.size ≤ u4.heap.size ∧ u4.heap.size + 1 ≤ u5.heap.size ∧ u5.heap.size ≤ u6.heap.size ∧ u6.heap.size + 1 ≤ u7.heap.size ∧ u7.heap.size ≤ u8.heap.size) := by show w.heap.size + 1 ≤ u0.heap.size ∧ u0.heap.size ≤ u1.heap.size ∧ u1.heap.size ≤ u2.heap.size ∧ u2.heap.size + 1 ≤ u3.heap.size ∧ u3.heap.size ≤ u4.heap.size ∧ u4.heap.size + 1 ≤ u5.heap.size ∧ u5.heap.size ≤ u6.heap.size ∧ u6.heap.size + 1 ≤ u7.heap.size ∧ u7.heap.size ≤ u8.heap.size; have := ZZ.out; have := b_.size; omega
  have HA : Hid (SlV u8 a vs) := HA.out.below b_
  have PA : Hid (Blk u8 w.heap.size #[.int .i64 m, .slice a vs.length c] 44) := PA.out.keep b_
  have OvS : Hid (OwnR u8 u1.heap.size u2.heap.size (.slice avS LvS.length cvS) LvS) := OvS.out.keep b_
  have BS : Hid (Blk u8 u2.heap.size #[.int .i64 M, .slice avS LvS.length cvS] 24) := BS.out.keep b_
  have Ox0 : Hid (OwnR u8 u3.heap.size u4.heap.size (.slice ax0 Lx0.length cx0) Lx0) := Ox0.out.keep b_
  have BX : Hid (Blk u8 u4.heap.size #[.int .i64 m, .slice ax0 Lx0.length cx0] 24) := BX.out.keep b_
  have OvG : Hid (OwnR u8 u5.heap.size u6.heap.size (.slice avG LvG.length cvG) LvG) := OvG.out.keep b_
  have BG : Hid (Blk u8 u6.heap.size #[.int .i64 M, .slice avG LvG.length cvG] 24) := BG.out.keep b_
  have BW : Hid (Below w.heap.size w u8) := BW.out.trans (b_.mono BW.out.size)
  clear b_ x_0 x_1 y_0 y_1
  go_upto_region 10 with fail
  go_cut [49] from 45 to 49 (fun q wx => q = .bool false ∧ Below u8.heap.size u8 wx)
  case first =>
    have AF : Hid (∀ V, Below u8.heap.size u8 V → (V.cell? ⟨u4.heap.size, 0, none⟩ = some (.int .i64 m) ∧ V.cell? ⟨u4.heap.size, 1, none⟩ = some (.slice ax0 Lx0.length cx0)) ∧ (V.cell? ⟨w.heap.size, 0, none⟩ = some (.int .i64 m) ∧ V.cell? ⟨w.heap.size, 1, none⟩ = some (.slice a vs.length c))) := fun V hV => ⟨(BX.out.keep hV).cells2, (PA.out.keep hV).cells2⟩
    obtain ⟨V, hV⟩ : ∃ V, V = u8.drew := ⟨_, rfl⟩
    have HV : Hid (V = u8.drew) := hV
    have BV : Hid (Below u8.heap.size u8 V) := by show Below _ _ _; rw [hV]; exact (Below.refl _ _).drew
    have pv := AF.out V BV.out
    have pu := AF.out u8 (Below.refl _ _)
    clear hV
    refine wp_region_held_drew (S := (fun w' : World => (w'.cell? ⟨u4.heap.size, 0, none⟩ = some (.int .i64 m) ∧ w'.cell? ⟨u4.heap.size, 1, none⟩ = some (.slice ax0 Lx0.length cx0)) ∧ (w'.cell? ⟨w.heap.size, 0, none⟩ = some (.int .i64 m) ∧ w'.cell? ⟨w.heap.size, 1, none⟩ = some (.slice a vs.length c)))) (by kernel_rfl) pu (fun hHeld => ?_)
    rw [← HV.out]
    refine wpAnyH_take (i := 0) (v := ?vk0) rfl (by kernel_rfl) (by kernel_rfl) (by kernel_rfl) (fun _ _ _ h => h) (Or.inl ⟨by rfl, ?yk0⟩) (by assumption) ?rk0
    case yk0 =>
      intro w' hSw
      try dsimp only at hSw
      go_simp
      try with_reducible rfl
    simp only [Act.put, List.getElem_toArray, List.getElem_cons_succ, List.getElem_cons_zero, List.setIfInBounds_toArray, List.set_cons_zero, List.set_cons_succ]
    refine wpAnyH_take (i := 1) (v := ?vk1) rfl (by kernel_rfl) (by kernel_rfl) (by kernel_rfl) (fun _ _ _ h => h) (Or.inl ⟨by rfl, ?yk1⟩) (by assumption) ?rk1
    case yk1 =>
      intro w' hSw
      try dsimp only at hSw
      go_simp
      try with_reducible rfl
    simp only [Act.put, List.getElem_toArray, List.getElem_cons_succ, List.getElem_cons_zero, List.setIfInBounds_toArray, List.set_cons_zero, List.set_cons_succ]
    refine wpAnyH_ready (rs := [2]) (by kernel_rfl) (by simp) ?_
    refine AllReadyH.cons rfl (fun K hK => ?_) AllReadyH.nil
    go_simp
    refine (toAR m a c vs V (HA.out.below BV.out) (by omega) (SA.out.mono (by decide))).mono ?_
    rintro e w1 ⟨y0, Ly0, rfl, o_, y_, _, b_⟩
    have B1 : Hid (Below u8.heap.size u8 w1) := BV.out.trans (b_.mono BV.out.size)
    have OY : Hid (OwnR w1 V.heap.size w1.heap.size y0 Ly0) := o_
    have YY : Hid (bodies Ly0 = bodies vs) := y_
    refine hK.out _ _ (AF.out w1 B1.out) (fun hH1 => ?_)
    clear hK K o_ y_ b_
    refine wpAnyH_ready (rs := [3]) (by kernel_rfl) (by simp) ?_
    refine AllReadyH.cons rfl (fun K hK => ?_) AllReadyH.nil
    go_simp
    refine (eqAR m _ _ _ _ _ _ Lx0 Ly0 w1 (Ox0.out.keep B1.out) OY.out (Yx0.out.trans YY.out.symm) (by have := (bodies_eq Yx0.out).1; omega) (vl0_short Yx0.out SA.out)).mono ?_
    rintro e w2 ⟨rfl, b_⟩
    have B2 : Hid (Below u8.heap.size u8 w2) := B1.out.trans (b_.mono B1.out.size)
    refine hK.out _ _ (AF.out w2 B2.out) (fun hH2 => ?_)
    clear hK K b_
    refine wpAnyH_take (i := 4) (v := ?vk4) rfl (by kernel_rfl) (by kernel_rfl) (by kernel_rfl) (fun _ _ _ h => h) (Or.inl ⟨by rfl, ?yk4⟩) (by assumption) ?rk4
    case yk4 =>
      intro w' hSw
      try dsimp only at hSw
      go_simp
      try with_reducible rfl
    simp only [Act.put, List.getElem_toArray, List.getElem_cons_succ, List.getElem_cons_zero, List.setIfInBounds_toArray, List.set_cons_zero, List.set_cons_succ]
    refine wpAnyH_done (by kernel_rfl) ?_ _
    go_wp2_with fail
    go_meet
    exact ⟨rfl, B2.out⟩
  case rest =>
  obtain ⟨u9, h9⟩ : ∃ x, x = wc := ⟨_, rfl⟩
  subst h9
  obtain ⟨rfl, b_⟩ := hcut
  have ZZ : Hid (w.heap.size + 1 ≤ u0.heap.size ∧ u0.heap.size ≤ u1.heap.size ∧ u1.heap.size ≤ u2.heap.size ∧ u2.heap.size + 1 ≤ u3.heap.size ∧ u3.heap.size ≤ u4.heap.size ∧ u4.heap.size + 1 ≤ u5.heap.size ∧ u5.heap.size ≤ u6.heap.size ∧ u6.heap.size + 1 ≤ u7.heap.size ∧ u7.heap.size ≤ u8.heap.size ∧ u8.heap.size ≤ u9.heap.size) := by show w.heap.size + 1 ≤ u0.heap.size ∧ u0.heap.size ≤ u1.heap.size ∧ u1.heap.size ≤ u2.heap.size ∧ u2.heap.size + 1 ≤ u3.heap.size ∧ u3.heap.size ≤ u4.heap.size ∧ u4.heap.size + 1 ≤ u5.heap.size ∧ u5.heap.size ≤ u6.heap.size ∧ u6.heap.size + 1 ≤ u7.heap.size ∧ u7.heap.size ≤ u8.heap.size ∧ u8.heap.size ≤ u9.heap.size; have := ZZ.out; have := b_.size; omega
  have HA : Hid (SlV u9 a vs) := HA.out.below b_
  have PA : Hid (Blk u9 w.heap.size #[.int .i64 m, .slice a vs.length c] 44) := PA.out.keep b_
  have OvS : Hid (OwnR u9 u1.heap.size u2.heap.size (.slice avS LvS.length cvS) LvS) := OvS.out.keep b_
  have BS : Hid (Blk u9 u2.heap.size #[.int .i64 M, .slice avS LvS.length cvS] 24) := BS.out.keep b_
  have Ox0 : Hid (OwnR u9 u3.heap.size u4.heap.size (.slice ax0 Lx0.length cx0) Lx0) := Ox0.out.keep b_
  have BX : Hid (Blk u9 u4.heap.size #[.int .i64 m, .slice ax0 Lx0.length cx0] 24) := BX.out.keep b_
  have OvG : Hid (OwnR u9 u5.heap.size u6.heap.size (.slice avG LvG.length cvG) LvG) := OvG.out.keep b_
  have BG : Hid (Blk u9 u6.heap.size #[.int .i64 M, .slice avG LvG.length cvG] 24) := BG.out.keep b_
  have BW : Hid (Below w.heap.size w u9) := BW.out.trans (b_.mono BW.out.size)
  clear b_ 
  have MKx0 : Hid (stepsV Lx0 Lx0.length ≤ 2 ^ 24) := by show _ ≤ _; rw [stepsV_body Yx0.out, stepsV_sum]; omega
  have MNx0 : Hid (Lx0.length ≤ 2 ^ 30) := by show _ ≤ _; rw [(bodies_eq Yx0.out).1]; omega
  have MKvG : Hid (stepsV LvG LvG.length ≤ 2 ^ 30) := (steps40 YvG.out BL.out SB.out).2
  have MNvG : Hid (LvG.length ≤ 2 ^ 30) := (steps40 YvG.out BL.out SB.out).1
  have MR : Hid (¬ ((1 + (stepsV Lx0 Lx0.length : Nat) : Int) < 0)) := by show ¬ _; omega
  have MRG : Hid (¬ ((1 + (stepsV LvG LvG.length : Nat) : Int) < 0)) := by show ¬ _; omega
  obtain ⟨x_0, x_1⟩ := BX.out.cells2
  go_wp2_with fail
  refine (markAR m _ _ _ Lx0 1 u9 Ox0.out MNx0.out (by decide) (by decide) (by have := MKx0.out; omega)).mono ?_
  rintro e u10 ⟨rfl, h_, o_⟩
  have ZZ : Hid (w.heap.size + 1 ≤ u0.heap.size ∧ u0.heap.size ≤ u1.heap.size ∧ u1.heap.size ≤ u2.heap.size ∧ u2.heap.size + 1 ≤ u3.heap.size ∧ u3.heap.size ≤ u4.heap.size ∧ u4.heap.size + 1 ≤ u5.heap.size ∧ u5.heap.size ≤ u6.heap.size ∧ u6.heap.size + 1 ≤ u7.heap.size ∧ u7.heap.size ≤ u8.heap.size ∧ u8.heap.size ≤ u9.heap.size ∧ u9.heap.size ≤ u10.heap.size) := by show w.heap.size + 1 ≤ u0.heap.size ∧ u0.heap.size ≤ u1.heap.size ∧ u1.heap.size ≤ u2.heap.size ∧ u2.heap.size + 1 ≤ u3.heap.size ∧ u3.heap.size ≤ u4.heap.size ∧ u4.heap.size + 1 ≤ u5.heap.size ∧ u5.heap.size ≤ u6.heap.size ∧ u6.heap.size + 1 ≤ u7.heap.size ∧ u7.heap.size ≤ u8.heap.size ∧ u8.heap.size ≤ u9.heap.size ∧ u9.heap.size ≤ u10.heap.size; have := ZZ.out; have := o_.size; omega
  have PA : Hid (Blk u10 w.heap.size #[.int .i64 m, .slice a vs.length c] 44) := PA.out.outG o_ (by have := ZZ.out; omega)
  have OvS : Hid (OwnR u10 u1.heap.size u2.heap.size (.slice avS LvS.length cvS) LvS) := OvS.out.outG o_ (by have := ZZ.out; omega)
  have BS : Hid (Blk u10 u2.heap.size #[.int .i64 M, .slice avS LvS.length cvS] 24) := BS.out.outG o_ (by have := ZZ.out; omega)
  have BX : Hid (Blk u10 u4.heap.size #[.int .i64 m, .slice ax0 Lx0.length cx0] 24) := BX.out.outG o_ (by have := ZZ.out; omega)
  have OvG : Hid (OwnR u10 u5.heap.size u6.heap.size (.slice avG LvG.length cvG) LvG) := OvG.out.outG o_ (by have := ZZ.out; omega)
  have BG : Hid (Blk u10 u6.heap.size #[.int .i64 M, .slice avG LvG.length cvG] 24) := BG.out.outG o_ (by have := ZZ.out; omega)
  have BW : Hid (Below w.heap.size w u10) := BW.out.trans (o_.below (show w.heap.size ≤ u3.heap.size by have := ZZ.out; omega) (by have := ZZ.out; omega))
  have HA : Hid (SlV u10 a vs) := HA0.out.below BW.out
  clear h_ o_ x_0 x_1
  generalize hq1 : (1 + (stepsV Lx0 Lx0.length : Nat) : Int) = q1 at MR ⊢
  have mr := MR.out
  obtain ⟨x_0, x_1⟩ := BG.out.cells2
  obtain ⟨y_0, y_1⟩ := BS.out.cells2
  go_wp2_with fail
  refine (eqAR M _ _ _ _ _ _ LvG LvS u10 OvG.out OvS.out (YvG.out.trans YvS.out.symm) (by have := (steps40 YvG.out BL.out SB.out).1; omega) (vl0_short YvG.out SB.out)).mono ?_
  rintro e u11 ⟨rfl, b_⟩
  have ZZ : Hid (w.heap.size + 1 ≤ u0.heap.size ∧ u0.heap.size ≤ u1.heap.size ∧ u1.heap.size ≤ u2.heap.size ∧ u2.heap.size + 1 ≤ u3.heap.size ∧ u3.heap.size ≤ u4.heap.size ∧ u4.heap.size + 1 ≤ u5.heap.size ∧ u5.heap.size ≤ u6.heap.size ∧ u6.heap.size + 1 ≤ u7.heap.size ∧ u7.heap.size ≤ u8.heap.size ∧ u8.heap.size ≤ u9.heap.size ∧ u9.heap.size ≤ u10.heap.size ∧ u10.heap.size ≤ u11.heap.size) := by show w.heap.size + 1 ≤ u0.heap.size ∧ u0.heap.size ≤ u1.heap.size ∧ u1.heap.size ≤ u2.heap.size ∧ u2.heap.size + 1 ≤ u3.heap.size ∧ u3.heap.size ≤ u4.heap.size ∧ u4.heap.size + 1 ≤ u5.heap.size ∧ u5.heap.size ≤ u6.heap.size ∧ u6.heap.size + 1 ≤ u7.heap.size ∧ u7.heap.size ≤ u8.heap.size ∧ u8.heap.size ≤ u9.heap.size ∧ u9.heap.size ≤ u10.heap.size ∧ u10.heap.size ≤ u11.heap.size; have := ZZ.out; have := b_.size; omega
  have HA : Hid (SlV u11 a vs) := HA.out.below b_
  have PA : Hid (Blk u11 w.heap.size #[.int .i64 m, .slice a vs.length c] 44) := PA.out.keep b_
  have OvS : Hid (OwnR u11 u1.heap.size u2.heap.size (.slice avS LvS.length cvS) LvS) := OvS.out.keep b_
  have BS : Hid (Blk u11 u2.heap.size #[.int .i64 M, .slice avS LvS.length cvS] 24) := BS.out.keep b_
  have BX : Hid (Blk u11 u4.heap.size #[.int .i64 m, .slice ax0 Lx0.length cx0] 24) := BX.out.keep b_
  have OvG : Hid (OwnR u11 u5.heap.size u6.heap.size (.slice avG LvG.length cvG) LvG) := OvG.out.keep b_
  have BG : Hid (Blk u11 u6.heap.size #[.int .i64 M, .slice avG LvG.length cvG] 24) := BG.out.keep b_
  have BW : Hid (Below w.heap.size w u11) := BW.out.trans (b_.mono BW.out.size)
  clear b_ x_0 x_1 y_0 y_1
  obtain ⟨x_0, x_1⟩ := BG.out.cells2
  go_wp2_with fail
  refine (markAR M _ _ _ LvG 1 u11 OvG.out MNvG.out (by decide) (by decide) (by have := MKvG.out; omega)).mono ?_
  rintro e u12 ⟨rfl, h_, o_⟩
  have ZZ : Hid (w.heap.size + 1 ≤ u0.heap.size ∧ u0.heap.size ≤ u1.heap.size ∧ u1.heap.size ≤ u2.heap.size ∧ u2.heap.size + 1 ≤ u3.heap.size ∧ u3.heap.size ≤ u4.heap.size ∧ u4.heap.size + 1 ≤ u5.heap.size ∧ u5.heap.size ≤ u6.heap.size ∧ u6.heap.size + 1 ≤ u7.heap.size ∧ u7.heap.size ≤ u8.heap.size ∧ u8.heap.size ≤ u9.heap.size ∧ u9.heap.size ≤ u10.heap.size ∧ u10.heap.size ≤ u11.heap.size ∧ u11.heap.size ≤ u12.heap.size) := by show w.heap.size + 1 ≤ u0.heap.size ∧ u0.heap.size ≤ u1.heap.size ∧ u1.heap.size ≤ u2.heap.size ∧ u2.heap.size + 1 ≤ u3.heap.size ∧ u3.heap.size ≤ u4.heap.size ∧ u4.heap.size + 1 ≤ u5.heap.size ∧ u5.heap.size ≤ u6.heap.size ∧ u6.heap.size + 1 ≤ u7.heap.size ∧ u7.heap.size ≤ u8.heap.size ∧ u8.heap.size ≤ u9.heap.size ∧ u9.heap.size ≤ u10.heap.size ∧ u10.heap.size ≤ u11.heap.size ∧ u11.heap.size ≤ u12.heap.size; have := ZZ.out; have := o_.size; omega
  have PA : Hid (Blk u12 w.heap.size #[.int .i64 m, .slice a vs.length c] 44) := PA.out.outG o_ (by have := ZZ.out; omega)
  have OvS : Hid (OwnR u12 u1.heap.size u2.heap.size (.slice avS LvS.length cvS) LvS) := OvS.out.outG o_ (by have := ZZ.out; omega)
  have BS : Hid (Blk u12 u2.heap.size #[.int .i64 M, .slice avS LvS.length cvS] 24) := BS.out.outG o_ (by have := ZZ.out; omega)
  have BX : Hid (Blk u12 u4.heap.size #[.int .i64 m, .slice ax0 Lx0.length cx0] 24) := BX.out.outG o_ (by have := ZZ.out; omega)
  have BG : Hid (Blk u12 u6.heap.size #[.int .i64 M, .slice avG LvG.length cvG] 24) := BG.out.outG o_ (by have := ZZ.out; omega)
  have BW : Hid (Below w.heap.size w u12) := BW.out.trans (o_.below (show w.heap.size ≤ u5.heap.size by have := ZZ.out; omega) (by have := ZZ.out; omega))
  have KvG : Hid (HeldR u12 u5.heap.size u6.heap.size (.slice avG LvG.length cvG) 1 LvG) := h_
  have HA : Hid (SlV u12 a vs) := HA0.out.below BW.out
  clear h_ o_ x_0 x_1
  generalize hq2 : (1 + (stepsV LvG LvG.length : Nat) : Int) = q2 at MRG ⊢
  have mrg := MRG.out
  obtain ⟨x_0, x_1⟩ := BG.out.cells2
  go_wp2_with fail
  refine (heldAR M _ _ _ LvG 1 u12 KvG.out MNvG.out (by decide) (by decide) MKvG.out).mono ?_
  rintro e u13 ⟨rfl, b_⟩
  rw [hq2]
  have ZZ : Hid (w.heap.size + 1 ≤ u0.heap.size ∧ u0.heap.size ≤ u1.heap.size ∧ u1.heap.size ≤ u2.heap.size ∧ u2.heap.size + 1 ≤ u3.heap.size ∧ u3.heap.size ≤ u4.heap.size ∧ u4.heap.size + 1 ≤ u5.heap.size ∧ u5.heap.size ≤ u6.heap.size ∧ u6.heap.size + 1 ≤ u7.heap.size ∧ u7.heap.size ≤ u8.heap.size ∧ u8.heap.size ≤ u9.heap.size ∧ u9.heap.size ≤ u10.heap.size ∧ u10.heap.size ≤ u11.heap.size ∧ u11.heap.size ≤ u12.heap.size ∧ u12.heap.size ≤ u13.heap.size) := by show w.heap.size + 1 ≤ u0.heap.size ∧ u0.heap.size ≤ u1.heap.size ∧ u1.heap.size ≤ u2.heap.size ∧ u2.heap.size + 1 ≤ u3.heap.size ∧ u3.heap.size ≤ u4.heap.size ∧ u4.heap.size + 1 ≤ u5.heap.size ∧ u5.heap.size ≤ u6.heap.size ∧ u6.heap.size + 1 ≤ u7.heap.size ∧ u7.heap.size ≤ u8.heap.size ∧ u8.heap.size ≤ u9.heap.size ∧ u9.heap.size ≤ u10.heap.size ∧ u10.heap.size ≤ u11.heap.size ∧ u11.heap.size ≤ u12.heap.size ∧ u12.heap.size ≤ u13.heap.size; have := ZZ.out; have := b_.size; omega
  have HA : Hid (SlV u13 a vs) := HA.out.below b_
  have PA : Hid (Blk u13 w.heap.size #[.int .i64 m, .slice a vs.length c] 44) := PA.out.keep b_
  have OvS : Hid (OwnR u13 u1.heap.size u2.heap.size (.slice avS LvS.length cvS) LvS) := OvS.out.keep b_
  have BS : Hid (Blk u13 u2.heap.size #[.int .i64 M, .slice avS LvS.length cvS] 24) := BS.out.keep b_
  have BX : Hid (Blk u13 u4.heap.size #[.int .i64 m, .slice ax0 Lx0.length cx0] 24) := BX.out.keep b_
  have BG : Hid (Blk u13 u6.heap.size #[.int .i64 M, .slice avG LvG.length cvG] 24) := BG.out.keep b_
  have KvG : Hid (HeldR u13 u5.heap.size u6.heap.size (.slice avG LvG.length cvG) 1 LvG) := KvG.out.keep b_
  have BW : Hid (Below w.heap.size w u13) := BW.out.trans (b_.mono BW.out.size)
  clear b_ x_0 x_1
  obtain ⟨a_0, a_1⟩ := PA.out.cells2
  go_wp2_with fail
  refine (toAR m a c vs u13 HA.out (by omega) (SA.out.mono (by decide))).mono ?_
  rintro e u14 ⟨z0, Lz0, rfl, o_, y_, l_, b_⟩
  have ZZ : Hid (w.heap.size + 1 ≤ u0.heap.size ∧ u0.heap.size ≤ u1.heap.size ∧ u1.heap.size ≤ u2.heap.size ∧ u2.heap.size + 1 ≤ u3.heap.size ∧ u3.heap.size ≤ u4.heap.size ∧ u4.heap.size + 1 ≤ u5.heap.size ∧ u5.heap.size ≤ u6.heap.size ∧ u6.heap.size + 1 ≤ u7.heap.size ∧ u7.heap.size ≤ u8.heap.size ∧ u8.heap.size ≤ u9.heap.size ∧ u9.heap.size ≤ u10.heap.size ∧ u10.heap.size ≤ u11.heap.size ∧ u11.heap.size ≤ u12.heap.size ∧ u12.heap.size ≤ u13.heap.size ∧ u13.heap.size ≤ u14.heap.size) := by show w.heap.size + 1 ≤ u0.heap.size ∧ u0.heap.size ≤ u1.heap.size ∧ u1.heap.size ≤ u2.heap.size ∧ u2.heap.size + 1 ≤ u3.heap.size ∧ u3.heap.size ≤ u4.heap.size ∧ u4.heap.size + 1 ≤ u5.heap.size ∧ u5.heap.size ≤ u6.heap.size ∧ u6.heap.size + 1 ≤ u7.heap.size ∧ u7.heap.size ≤ u8.heap.size ∧ u8.heap.size ≤ u9.heap.size ∧ u9.heap.size ≤ u10.heap.size ∧ u10.heap.size ≤ u11.heap.size ∧ u11.heap.size ≤ u12.heap.size ∧ u12.heap.size ≤ u13.heap.size ∧ u13.heap.size ≤ u14.heap.size; have := ZZ.out; have := b_.size; omega
  have HA : Hid (SlV u14 a vs) := HA.out.below b_
  have PA : Hid (Blk u14 w.heap.size #[.int .i64 m, .slice a vs.length c] 44) := PA.out.keep b_
  have OvS : Hid (OwnR u14 u1.heap.size u2.heap.size (.slice avS LvS.length cvS) LvS) := OvS.out.keep b_
  have BS : Hid (Blk u14 u2.heap.size #[.int .i64 M, .slice avS LvS.length cvS] 24) := BS.out.keep b_
  have BX : Hid (Blk u14 u4.heap.size #[.int .i64 m, .slice ax0 Lx0.length cx0] 24) := BX.out.keep b_
  have BG : Hid (Blk u14 u6.heap.size #[.int .i64 M, .slice avG LvG.length cvG] 24) := BG.out.keep b_
  have KvG : Hid (HeldR u14 u5.heap.size u6.heap.size (.slice avG LvG.length cvG) 1 LvG) := KvG.out.keep b_
  have Oz0 : Hid (OwnR u14 u13.heap.size u14.heap.size z0 Lz0) := o_
  have Yz0 : Hid (bodies Lz0 = bodies vs) := y_
  have Vz0 : Hid (VLs Lz0) := l_
  have BW : Hid (Below w.heap.size w u14) := BW.out.trans (b_.mono BW.out.size)
  clear b_ o_ y_ l_ a_0 a_1
  go_wp2_with fail
  refine ((CI.out) u14 _ _ _ Lz0 Oz0.out Vz0.out (by have := (bodies_eq Yz0.out).1; omega) Yz0.out).mono ?_
  rintro e u15 ⟨avH, cvH, LvH, rfl, o_, y_, b_⟩
  have ZZ : Hid (w.heap.size + 1 ≤ u0.heap.size ∧ u0.heap.size ≤ u1.heap.size ∧ u1.heap.size ≤ u2.heap.size ∧ u2.heap.size + 1 ≤ u3.heap.size ∧ u3.heap.size ≤ u4.heap.size ∧ u4.heap.size + 1 ≤ u5.heap.size ∧ u5.heap.size ≤ u6.heap.size ∧ u6.heap.size + 1 ≤ u7.heap.size ∧ u7.heap.size ≤ u8.heap.size ∧ u8.heap.size ≤ u9.heap.size ∧ u9.heap.size ≤ u10.heap.size ∧ u10.heap.size ≤ u11.heap.size ∧ u11.heap.size ≤ u12.heap.size ∧ u12.heap.size ≤ u13.heap.size ∧ u13.heap.size ≤ u14.heap.size ∧ u14.heap.size ≤ u15.heap.size) := by show w.heap.size + 1 ≤ u0.heap.size ∧ u0.heap.size ≤ u1.heap.size ∧ u1.heap.size ≤ u2.heap.size ∧ u2.heap.size + 1 ≤ u3.heap.size ∧ u3.heap.size ≤ u4.heap.size ∧ u4.heap.size + 1 ≤ u5.heap.size ∧ u5.heap.size ≤ u6.heap.size ∧ u6.heap.size + 1 ≤ u7.heap.size ∧ u7.heap.size ≤ u8.heap.size ∧ u8.heap.size ≤ u9.heap.size ∧ u9.heap.size ≤ u10.heap.size ∧ u10.heap.size ≤ u11.heap.size ∧ u11.heap.size ≤ u12.heap.size ∧ u12.heap.size ≤ u13.heap.size ∧ u13.heap.size ≤ u14.heap.size ∧ u14.heap.size ≤ u15.heap.size; have := ZZ.out; have := b_.size; omega
  have HA : Hid (SlV u15 a vs) := HA.out.below b_
  have PA : Hid (Blk u15 w.heap.size #[.int .i64 m, .slice a vs.length c] 44) := PA.out.keep b_
  have OvS : Hid (OwnR u15 u1.heap.size u2.heap.size (.slice avS LvS.length cvS) LvS) := OvS.out.keep b_
  have BS : Hid (Blk u15 u2.heap.size #[.int .i64 M, .slice avS LvS.length cvS] 24) := BS.out.keep b_
  have BX : Hid (Blk u15 u4.heap.size #[.int .i64 m, .slice ax0 Lx0.length cx0] 24) := BX.out.keep b_
  have BG : Hid (Blk u15 u6.heap.size #[.int .i64 M, .slice avG LvG.length cvG] 24) := BG.out.keep b_
  have KvG : Hid (HeldR u15 u5.heap.size u6.heap.size (.slice avG LvG.length cvG) 1 LvG) := KvG.out.keep b_
  have Oz0 : Hid (OwnR u15 u13.heap.size u14.heap.size z0 Lz0) := Oz0.out.keep b_
  have OvH : Hid (OwnR u15 u14.heap.size u15.heap.size (.slice avH LvH.length cvH) LvH) := o_
  have YvH : Hid (bodies LvH = BB) := y_
  have BW : Hid (Below w.heap.size w u15) := BW.out.trans (b_.mono BW.out.size)
  clear b_ o_ y_
  clear Oz0 Yz0 Vz0
  go_upto_region 25 with fail
  obtain ⟨u16, h_⟩ : ∃ x, x = u15.alloc (.cells #[.int .i64 M, .slice avH LvH.length cvH] 24) := ⟨_, rfl⟩
  rw [← h_]
  have b_ : Below u15.heap.size u15 u16 := by rw [h_]; exact (Below.refl _ _).alloc (Nat.le_refl _) _
  have n_ : Blk u16 u15.heap.size #[.int .i64 M, .slice avH LvH.length cvH] 24 := by rw [h_]; exact Blk.new _ _ _
  clear h_
  have ZZ : Hid (w.heap.size + 1 ≤ u0.heap.size ∧ u0.heap.size ≤ u1.heap.size ∧ u1.heap.size ≤ u2.heap.size ∧ u2.heap.size + 1 ≤ u3.heap.size ∧ u3.heap.size ≤ u4.heap.size ∧ u4.heap.size + 1 ≤ u5.heap.size ∧ u5.heap.size ≤ u6.heap.size ∧ u6.heap.size + 1 ≤ u7.heap.size ∧ u7.heap.size ≤ u8.heap.size ∧ u8.heap.size ≤ u9.heap.size ∧ u9.heap.size ≤ u10.heap.size ∧ u10.heap.size ≤ u11.heap.size ∧ u11.heap.size ≤ u12.heap.size ∧ u12.heap.size ≤ u13.heap.size ∧ u13.heap.size ≤ u14.heap.size ∧ u14.heap.size ≤ u15.heap.size ∧ u15.heap.size + 1 ≤ u16.heap.size) := by show w.heap.size + 1 ≤ u0.heap.size ∧ u0.heap.size ≤ u1.heap.size ∧ u1.heap.size ≤ u2.heap.size ∧ u2.heap.size + 1 ≤ u3.heap.size ∧ u3.heap.size ≤ u4.heap.size ∧ u4.heap.size + 1 ≤ u5.heap.size ∧ u5.heap.size ≤ u6.heap.size ∧ u6.heap.size + 1 ≤ u7.heap.size ∧ u7.heap.size ≤ u8.heap.size ∧ u8.heap.size ≤ u9.heap.size ∧ u9.heap.size ≤ u10.heap.size ∧ u10.heap.size ≤ u11.heap.size ∧ u11.heap.size ≤ u12.heap.size ∧ u12.heap.size ≤ u13.heap.size ∧ u13.heap.size ≤ u14.heap.size ∧ u14.heap.size ≤ u15.heap.size ∧ u15.heap.size + 1 ≤ u16.heap.size; have := ZZ.out; have := n_.lt; omega
  have HA : Hid (SlV u16 a vs) := HA.out.below b_
  have PA : Hid (Blk u16 w.heap.size #[.int .i64 m, .slice a vs.length c] 44) := PA.out.keep b_
  have OvS : Hid (OwnR u16 u1.heap.size u2.heap.size (.slice avS LvS.length cvS) LvS) := OvS.out.keep b_
  have BS : Hid (Blk u16 u2.heap.size #[.int .i64 M, .slice avS LvS.length cvS] 24) := BS.out.keep b_
  have BX : Hid (Blk u16 u4.heap.size #[.int .i64 m, .slice ax0 Lx0.length cx0] 24) := BX.out.keep b_
  have BG : Hid (Blk u16 u6.heap.size #[.int .i64 M, .slice avG LvG.length cvG] 24) := BG.out.keep b_
  have KvG : Hid (HeldR u16 u5.heap.size u6.heap.size (.slice avG LvG.length cvG) 1 LvG) := KvG.out.keep b_
  have OvH : Hid (OwnR u16 u14.heap.size u15.heap.size (.slice avH LvH.length cvH) LvH) := OvH.out.keep b_
  have BH : Hid (Blk u16 u15.heap.size #[.int .i64 M, .slice avH LvH.length cvH] 24) := n_
  have BW : Hid (Below w.heap.size w u16) := BW.out.trans (b_.mono BW.out.size)
  clear b_ n_
  obtain ⟨x_0, x_1⟩ := BH.out.cells2
  obtain ⟨y_0, y_1⟩ := BS.out.cells2
  go_wp2_with fail
  refine (eqAR M _ _ _ _ _ _ LvH LvS u16 OvH.out OvS.out (YvH.out.trans YvS.out.symm) (by have := (steps40 YvH.out BL.out SB.out).1; omega) (vl0_short YvH.out SB.out)).mono ?_
  rintro e u17 ⟨rfl, b_⟩
  have ZZ : Hid (w.heap.size + 1 ≤ u0.heap.size ∧ u0.heap.size ≤ u1.heap.size ∧ u1.heap.size ≤ u2.heap.size ∧ u2.heap.size + 1 ≤ u3.heap.size ∧ u3.heap.size ≤ u4.heap.size ∧ u4.heap.size + 1 ≤ u5.heap.size ∧ u5.heap.size ≤ u6.heap.size ∧ u6.heap.size + 1 ≤ u7.heap.size ∧ u7.heap.size ≤ u8.heap.size ∧ u8.heap.size ≤ u9.heap.size ∧ u9.heap.size ≤ u10.heap.size ∧ u10.heap.size ≤ u11.heap.size ∧ u11.heap.size ≤ u12.heap.size ∧ u12.heap.size ≤ u13.heap.size ∧ u13.heap.size ≤ u14.heap.size ∧ u14.heap.size ≤ u15.heap.size ∧ u15.heap.size + 1 ≤ u16.heap.size ∧ u16.heap.size ≤ u17.heap.size) := by show w.heap.size + 1 ≤ u0.heap.size ∧ u0.heap.size ≤ u1.heap.size ∧ u1.heap.size ≤ u2.heap.size ∧ u2.heap.size + 1 ≤ u3.heap.size ∧ u3.heap.size ≤ u4.heap.size ∧ u4.heap.size + 1 ≤ u5.heap.size ∧ u5.heap.size ≤ u6.heap.size ∧ u6.heap.size + 1 ≤ u7.heap.size ∧ u7.heap.size ≤ u8.heap.size ∧ u8.heap.size ≤ u9.heap.size ∧ u9.heap.size ≤ u10.heap.size ∧ u10.heap.size ≤ u11.heap.size ∧ u11.heap.size ≤ u12.heap.size ∧ u12.heap.size ≤ u13.heap.size ∧ u13.heap.size ≤ u14.heap.size ∧ u14.heap.size ≤ u15.heap.size ∧ u15.heap.size + 1 ≤ u16.heap.size ∧ u16.heap.size ≤ u17.heap.size; have := ZZ.out; have := b_.size; omega
  have HA : Hid (SlV u17 a vs) := HA.out.below b_
  have PA : Hid (Blk u17 w.heap.size #[.int .i64 m, .slice a vs.length c] 44) := PA.out.keep b_
  have OvS : Hid (OwnR u17 u1.heap.size u2.heap.size (.slice avS LvS.length cvS) LvS) := OvS.out.keep b_
  have BS : Hid (Blk u17 u2.heap.size #[.int .i64 M, .slice avS LvS.length cvS] 24) := BS.out.keep b_
  have BX : Hid (Blk u17 u4.heap.size #[.int .i64 m, .slice ax0 Lx0.length cx0] 24) := BX.out.keep b_
  have BG : Hid (Blk u17 u6.heap.size #[.int .i64 M, .slice avG LvG.length cvG] 24) := BG.out.keep b_
  have KvG : Hid (HeldR u17 u5.heap.size u6.heap.size (.slice avG LvG.length cvG) 1 LvG) := KvG.out.keep b_
  have OvH : Hid (OwnR u17 u14.heap.size u15.heap.size (.slice avH LvH.length cvH) LvH) := OvH.out.keep b_
  have BH : Hid (Blk u17 u15.heap.size #[.int .i64 M, .slice avH LvH.length cvH] 24) := BH.out.keep b_
  have BW : Hid (Below w.heap.size w u17) := BW.out.trans (b_.mono BW.out.size)
  clear b_ x_0 x_1 y_0 y_1
  obtain ⟨x_0, x_1⟩ := BG.out.cells2
  go_wp2_with fail
  refine (heldAR M _ _ _ LvG 1 u17 KvG.out MNvG.out (by decide) (by decide) MKvG.out).mono ?_
  rintro e u18 ⟨rfl, b_⟩
  rw [hq2]
  have ZZ : Hid (w.heap.size + 1 ≤ u0.heap.size ∧ u0.heap.size ≤ u1.heap.size ∧ u1.heap.size ≤ u2.heap.size ∧ u2.heap.size + 1 ≤ u3.heap.size ∧ u3.heap.size ≤ u4.heap.size ∧ u4.heap.size + 1 ≤ u5.heap.size ∧ u5.heap.size ≤ u6.heap.size ∧ u6.heap.size + 1 ≤ u7.heap.size ∧ u7.heap.size ≤ u8.heap.size ∧ u8.heap.size ≤ u9.heap.size ∧ u9.heap.size ≤ u10.heap.size ∧ u10.heap.size ≤ u11.heap.size ∧ u11.heap.size ≤ u12.heap.size ∧ u12.heap.size ≤ u13.heap.size ∧ u13.heap.size ≤ u14.heap.size ∧ u14.heap.size ≤ u15.heap.size ∧ u15.heap.size + 1 ≤ u16.heap.size ∧ u16.heap.size ≤ u17.heap.size ∧ u17.heap.size ≤ u18.heap.size) := by show w.heap.size + 1 ≤ u0.heap.size ∧ u0.heap.size ≤ u1.heap.size ∧ u1.heap.size ≤ u2.heap.size ∧ u2.heap.size + 1 ≤ u3.heap.size ∧ u3.heap.size ≤ u4.heap.size ∧ u4.heap.size + 1 ≤ u5.heap.size ∧ u5.heap.size ≤ u6.heap.size ∧ u6.heap.size + 1 ≤ u7.heap.size ∧ u7.heap.size ≤ u8.heap.size ∧ u8.heap.size ≤ u9.heap.size ∧ u9.heap.size ≤ u10.heap.size ∧ u10.heap.size ≤ u11.heap.size ∧ u11.heap.size ≤ u12.heap.size ∧ u12.heap.size ≤ u13.heap.size ∧ u13.heap.size ≤ u14.heap.size ∧ u14.heap.size ≤ u15.heap.size ∧ u15.heap.size + 1 ≤ u16.heap.size ∧ u16.heap.size ≤ u17.heap.size ∧ u17.heap.size ≤ u18.heap.size; have := ZZ.out; have := b_.size; omega
  have HA : Hid (SlV u18 a vs) := HA.out.below b_
  have PA : Hid (Blk u18 w.heap.size #[.int .i64 m, .slice a vs.length c] 44) := PA.out.keep b_
  have OvS : Hid (OwnR u18 u1.heap.size u2.heap.size (.slice avS LvS.length cvS) LvS) := OvS.out.keep b_
  have BS : Hid (Blk u18 u2.heap.size #[.int .i64 M, .slice avS LvS.length cvS] 24) := BS.out.keep b_
  have BX : Hid (Blk u18 u4.heap.size #[.int .i64 m, .slice ax0 Lx0.length cx0] 24) := BX.out.keep b_
  have BG : Hid (Blk u18 u6.heap.size #[.int .i64 M, .slice avG LvG.length cvG] 24) := BG.out.keep b_
  have KvG : Hid (HeldR u18 u5.heap.size u6.heap.size (.slice avG LvG.length cvG) 1 LvG) := KvG.out.keep b_
  have OvH : Hid (OwnR u18 u14.heap.size u15.heap.size (.slice avH LvH.length cvH) LvH) := OvH.out.keep b_
  have BH : Hid (Blk u18 u15.heap.size #[.int .i64 M, .slice avH LvH.length cvH] 24) := BH.out.keep b_
  have BW : Hid (Below w.heap.size w u18) := BW.out.trans (b_.mono BW.out.size)
  clear b_ x_0 x_1
  go_wp2_with fail
  go_ret
  exact ⟨rfl, BW.out⟩
theorem lawAccPromiseF (m : Int) (a : Option Addr) (c : Nat) (vs : List VM) (bal : Int) (w : World) (h1 : SlV w a vs) (n1 : vs.length ≤ maxLen) (m1 : ∀ i, i < vs.length → (vs.getD i v0).b.xs.length ≤ maxLen ∧ (vs.getD i v0).b.ys.length ≤ maxLen) (hb : (Lit.int IntKind.i64 bal).wf = true) :
    Calls Try.prog 5 #[.agg #[.int .i64 m, .slice a vs.length c], .int .i64 bal] w fun e w' => e = .returned (.bool true) ∧ Below w.heap.size w w' := lawAccPromise m a c vs bal w h1 n1 m1
end Go.Proofs.Ytbbbfnfpmaogoaa.Own
