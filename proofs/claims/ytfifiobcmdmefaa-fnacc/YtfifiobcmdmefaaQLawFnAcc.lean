/-
  Own text, by program (gen_fnacc.py): laws.FnAcc.
-/
import Derived.Test.YtfifiobcmdmefaaQLawAccMerge
import Derived.Test.YtfifiobcmdmefaaPk12
import Derived.Test.YtfifiobcmdmefaaQDrawAccVote
import Derived.Test.YtfifiobcmdmefaaPk11
import Derived.Test.YtfifiobcmdmefaaPk9
import Derived.Deep.RegionHeld
import Derived.BigQuiet
import Derived.Lib.QuietBelow
import Derived.Deep.Cut
import Derived.Deep.CutRange
namespace Go.Proofs.Ytfifiobcmdmefaa.Own
open Go.RowKit Go.Sort
set_option linter.unusedVariables false
set_option linter.unusedSimpArgs false

/-- An entry's two lists in memory. -/
def SlE (w : World) (a1 a2 : Option Addr) (xs ys : List P2) : Prop := Sl w a1 xs ∧ Sl w a2 ys
theorem SlE.keep {w w' : World} {a1 a2 : Option Addr} {xs ys : List P2} (h : SlE w a1 a2 xs ys) (hb : Below w.heap.size w w') : SlE w' a1 a2 xs ys := ⟨h.1.below hb, h.2.below hb⟩
theorem LV.slv {w : World} {B T K : Nat} {a : Option Addr} {c : Nat} {L : List VM} (h : LV w B T (.slice a K c) L) (hn : L.length = K) : SlV w a L := by
  obtain ⟨a0, c0, e0, hs⟩ := h.own.form
  have e1 : a = a0 := by injection e0
  subst e1
  exact hs
/-- The contracts of AccOk and AccSame on lists of one's own. -/
theorem okI {w : World} {B T K : Nat} {a : Option Addr} {c : Nat} {L : List VM} (h : LV w B T (.slice a K c) L) (hn : L.length = K) (m : Int) {C : List V} (hC : bodies L = C) : Calls Try.prog 16 #[.agg #[.int .i64 m, .slice a K c]] w fun e w' => e = .returned (.bool (accOk m C)) ∧ Below w.heap.size w w' := by
  have := implAccOk m a c L w (h.slv hn) (by have := h.len; omega) h.vls
  rw [hn, hC] at this
  exact this
theorem okS {w : World} {B T K : Nat} {a : Option Addr} {c : Nat} {L : List VM} (h : LV w B T (.slice a K c) L) (hn : L.length = K) (m : Int) {C : List V} (hC : bodies L = C) : Calls Try.prog 17 #[.agg #[.int .i64 m, .slice a K c]] w fun e w' => e = .returned (.bool (accOk m C)) ∧ Below w.heap.size w w' := by
  have := specAccOk m a c L w (h.slv hn) (by have := h.len; omega) h.vls
  rw [hn, hC] at this
  exact this
theorem sameI {w : World} {B T K B' T' K' : Nat} {a b : Option Addr} {c d : Nat} {L M : List VM} (h : LV w B T (.slice a K c) L) (hn : L.length = K) (h' : LV w B' T' (.slice b K' d) M) (hn' : M.length = K') (m : Int) (hC : bodies L = bodies M) : Calls Try.prog 15 #[.agg #[.int .i64 m, .slice a K c], .agg #[.int .i64 m, .slice b K' d]] w fun e w' => e = .returned (.bool true) ∧ Below w.heap.size w w' := by
  have := implAccSame m m a b c d L M w (h.slv hn) (h'.slv hn') (by have := h.len; omega) (by have := h'.len; omega) h.vls h'.vls
  rw [hn, hn', hC, sameVs_self, beq_self_eq_true] at this
  exact this
/-- What FnAcc says of votes and promises. -/
theorem acc_bad {m bal slot : Int} {x : EB} {A : List V} (h : accOk m A = false) : voO m bal slot x A = false ∧ prO m bal A = false := by
  unfold voO prO; rw [h]; exact ⟨rfl, rfl⟩
theorem acc_prom {m bal : Int} {A : List V} (h : accOk m A = true) : prB m A = A ∧ accOk (prM m bal A) A = true ∧ m ≤ prM m bal A ∧ prO m bal A = (isBal bal && decide (m ≤ bal)) := by
  refine ⟨by unfold prB; rw [if_pos h], ?_, ?_, by unfold prO promOk; rw [h]; rfl⟩
  · unfold prM promTo
    rw [if_pos h]
    split
    · rename_i hb
      simp only [Bool.and_eq_true, decide_eq_true_eq] at hb
      exact accOk_prom h hb.2 (isBal_iff.1 hb.1).2
    · exact h
  · unfold prM promTo
    rw [if_pos h]
    split
    · rename_i hb
      simp only [Bool.and_eq_true, decide_eq_true_eq] at hb
      exact hb.2
    · exact Int.le_refl _
theorem acc_vote {m bal slot : Int} {x : EB} {A : List V} (h : accOk m A = true) :
    (voO m bal slot x A = false → voM m bal slot x A = m ∧ voB m bal slot x A = A) ∧
    (voO m bal slot x A = true → castOk m bal slot x = true ∧ voM m bal slot x A = bal ∧ voB m bal slot x A = castB A slot.toNat (bal, x) ∧ accOk bal (castB A slot.toNat (bal, x)) = true ∧ m ≤ bal ∧ 1 ≤ bal ∧ bal ≤ 3000 ∧ 0 ≤ slot ∧ slot < 40) := by
  unfold voO voM voB
  rw [h]
  simp only [Bool.true_and, if_true]
  refine ⟨fun hc => by rw [hc]; exact ⟨rfl, rfl⟩, fun hc => ?_⟩
  have h1 := accOk_cast h hc
  have h2 := castOk_place hc
  have h3 := hc
  unfold castOk promOk at h3
  simp only [Bool.and_eq_true, decide_eq_true_eq] at h3
  have h4 := isBal_iff.1 h3.1.1
  rw [hc]
  exact ⟨rfl, rfl, rfl, h1, h3.1.2, h4.1, h4.2, h2.1, h2.2⟩
theorem vote_low {bal slot : Int} {x : EB} {A : List V} : voO bal (bal - 1) slot x A = false := by
  unfold voO castOk promOk
  have : decide (bal ≤ bal - 1) = false := by simp; omega
  rw [this]; simp

set_option maxRecDepth 100000 in
set_option maxHeartbeats 8000000 in
theorem lawFnAcc (a : Option Addr) (n c : Nat) (w : World) (h : Bytes w w.heap.size a n) (hc : n ≤ c) (hm : c ≤ maxLen) :
    Calls Try.prog 3 #[.slice a n c] w fun e w' => e = .returned (.bool true) ∧ Below w.heap.size w w' := by
  have HB : Hid (Bytes w w.heap.size a n) := h
  have HM : Hid (c ≤ maxLen) := hm
  clear h
  unfold maxLen at hm
  by_cases hn : n ≤ 1048576
  · have hd : decide ((1048576 : Int) < (n : Int)) = false := by simp; omega
    go_enter Try.func3, Try.ntmps3
    go_wp2_with fail
    refine (drawAccVote a n c w HB.out hc HM.out).mono ?_
    rintro e w1 ⟨m, la, lc, us, bal, slot, bn, ep, eq, a1, d1, xs, a2, d2, ys, ev, ek, rfl, o1, ho, ly1, ly2, m0, m1, bl0, bl1, sl0, sl1, b1⟩
    obtain ⟨V, hV⟩ : ∃ V, V = (w1.alloc (.cells #[.int .i64 m, .slice la us.length lc] 25)).alloc (.cells #[.bool bn, .int .i64 ep, .int .i64 eq, .slice a1 xs.length d1, .slice a2 ys.length d2, .int .i64 ev, .int .i64 ek] 33) := ⟨_, rfl⟩
    have EV : Hid (V = (w1.alloc (.cells #[.int .i64 m, .slice la us.length lc] 25)).alloc (.cells #[.bool bn, .int .i64 ep, .int .i64 eq, .slice a1 xs.length d1, .slice a2 ys.length d2, .int .i64 ev, .int .i64 ek] 33)) := hV
    have kV : Below w1.heap.size w1 V := by rw [hV]; exact ((Below.refl _ _).alloc (Nat.le_refl _) _).alloc (by simp) _
    have U : Hid (LV V w.heap.size w1.heap.size (.slice la us.length lc) us) := o1.keep kV
    have T3 : Hid (Blk V w1.heap.size #[.int .i64 m, .slice la us.length lc] 25) := by show Blk _ _ _ _; rw [hV]; exact (Blk.new _ _ _).alloc _
    have T6 : Hid (Blk V (w1.heap.size + 1) #[.bool bn, .int .i64 ep, .int .i64 eq, .slice a1 xs.length d1, .slice a2 ys.length d2, .int .i64 ev, .int .i64 ek] 33) := by show Blk _ _ _ _; rw [hV]; exact Blk.new2 _ _ _ _
    have SX : Hid (SlE V a1 a2 xs ys) := ⟨ho.l1.sl.below kV, ho.l2.sl.below kV⟩
    have BW : Hid (Below w.heap.size w V) := b1.trans (kV.mono b1.size)
    have FX : Hid (xs.length ≤ 4 ∧ ys.length ≤ 4 ∧ xs.length ≤ d1 ∧ ys.length ≤ d2) := ⟨ly1, ly2, ho.c1, ho.c2⟩
    have LU : us.length ≤ 40 := o1.len
    have FB : Hid ((-1 ≤ m ∧ m ≤ 3001) ∧ (-2 ≤ bal ∧ bal ≤ 3003) ∧ (-1 ≤ slot ∧ slot ≤ 40)) := ⟨⟨m0, m1⟩, ⟨bl0, bl1⟩, sl0, sl1⟩
    clear hV kV o1 ho b1 ly1 ly2 m0 m1 bl0 bl1 sl0 sl1 hd
    obtain ⟨M1, hM1⟩ : ∃ x, x = voM m bal slot ⟨bn, ep, eq, xs, ys, ev, ek⟩ (bodies us) := ⟨_, rfl⟩
    obtain ⟨O1, hO1⟩ : ∃ x, x = voO m bal slot ⟨bn, ep, eq, xs, ys, ev, ek⟩ (bodies us) := ⟨_, rfl⟩
    obtain ⟨B1, hB1⟩ : ∃ x, x = voB m bal slot ⟨bn, ep, eq, xs, ys, ev, ek⟩ (bodies us) := ⟨_, rfl⟩
    obtain ⟨K1, hK1⟩ : ∃ x, x = B1.length := ⟨_, rfl⟩
    obtain ⟨M2, hM2⟩ : ∃ x, x = prM m bal (bodies us) := ⟨_, rfl⟩
    obtain ⟨O2, hO2⟩ : ∃ x, x = prO m bal (bodies us) := ⟨_, rfl⟩
    obtain ⟨B2, hB2⟩ : ∃ x, x = prB m (bodies us) := ⟨_, rfl⟩
    obtain ⟨K2, hK2⟩ : ∃ x, x = B2.length := ⟨_, rfl⟩
    obtain ⟨G, hG⟩ : ∃ x, x = accOk m (bodies us) := ⟨_, rfl⟩
    have QV : Hid (M1 = voM m bal slot ⟨bn, ep, eq, xs, ys, ev, ek⟩ (bodies us) ∧ O1 = voO m bal slot ⟨bn, ep, eq, xs, ys, ev, ek⟩ (bodies us) ∧ B1 = voB m bal slot ⟨bn, ep, eq, xs, ys, ev, ek⟩ (bodies us) ∧ K1 = B1.length) := ⟨hM1, hO1, hB1, hK1⟩
    have QP : Hid (M2 = prM m bal (bodies us) ∧ O2 = prO m bal (bodies us) ∧ B2 = prB m (bodies us) ∧ K2 = B2.length) := ⟨hM2, hO2, hB2, hK2⟩
    have QG : Hid (accOk m (bodies us) = G) := hG.symm
    have LK1 : K1 ≤ 40 := by rw [hK1, hB1]; exact voB_len _ _ _ _ _
    have LK2 : K2 ≤ 40 := by rw [hK2, hB2]; exact prB_len _ _
    clear hM1 hO1 hB1 hK1 hM2 hO2 hB2 hK2 hG
    have CVI : Hid (∀ W, LV W w.heap.size w1.heap.size (.slice la us.length lc) us → SlE W a1 a2 xs ys → Calls Try.prog 11 #[.agg #[.int .i64 m, .slice la us.length lc], .int .i64 bal, .int .i64 slot, .agg #[.bool bn, .int .i64 ep, .int .i64 eq, .slice a1 xs.length d1, .slice a2 ys.length d2, .int .i64 ev, .int .i64 ek]] W fun e w' => ∃ a c N, e = .returned (.tuple #[.agg #[.int .i64 M1, .slice a K1 c], .bool O1]) ∧ N.length = K1 ∧ bodies N = B1 ∧ LV w' W.heap.size w'.heap.size (.slice a K1 c) N ∧ Below W.heap.size W w') := fun W hU hS => by
      rw [QV.out.1, QV.out.2.1, QV.out.2.2.1]
      exact voteVI hU m bal slot ⟨bn, ep, eq, xs, ys, ev, ek⟩ hS.1 hS.2 FX.out.2.2.1 FX.out.2.2.2 FX.out.1 FX.out.2.1 (bodies us) rfl K1 (by rw [QV.out.2.2.2, QV.out.2.2.1])
    have CVS : Hid (∀ W, LV W w.heap.size w1.heap.size (.slice la us.length lc) us → SlE W a1 a2 xs ys → Calls Try.prog 12 #[.agg #[.int .i64 m, .slice la us.length lc], .int .i64 bal, .int .i64 slot, .agg #[.bool bn, .int .i64 ep, .int .i64 eq, .slice a1 xs.length d1, .slice a2 ys.length d2, .int .i64 ev, .int .i64 ek]] W fun e w' => ∃ a c N, e = .returned (.tuple #[.agg #[.int .i64 M1, .slice a K1 c], .bool O1]) ∧ N.length = K1 ∧ bodies N = B1 ∧ LV w' W.heap.size w'.heap.size (.slice a K1 c) N ∧ Below W.heap.size W w') := fun W hU hS => by
      rw [QV.out.1, QV.out.2.1, QV.out.2.2.1]
      exact voteVS hU m bal slot ⟨bn, ep, eq, xs, ys, ev, ek⟩ hS.1 hS.2 FX.out.2.2.1 FX.out.2.2.2 FX.out.1 FX.out.2.1 (bodies us) rfl K1 (by rw [QV.out.2.2.2, QV.out.2.2.1])
    have CPI : Hid (∀ W, LV W w.heap.size w1.heap.size (.slice la us.length lc) us → Calls Try.prog 13 #[.agg #[.int .i64 m, .slice la us.length lc], .int .i64 bal] W fun e w' => ∃ a c N, e = .returned (.tuple #[.agg #[.int .i64 M2, .slice a K2 c], .bool O2]) ∧ N.length = K2 ∧ bodies N = B2 ∧ LV w' W.heap.size w'.heap.size (.slice a K2 c) N ∧ Below W.heap.size W w') := fun W hU => by
      rw [QP.out.1, QP.out.2.1, QP.out.2.2.1]
      exact promVI hU m bal (bodies us) rfl K2 (by rw [QP.out.2.2.2, QP.out.2.2.1])
    have CPS : Hid (∀ W, LV W w.heap.size w1.heap.size (.slice la us.length lc) us → Calls Try.prog 14 #[.agg #[.int .i64 m, .slice la us.length lc], .int .i64 bal] W fun e w' => ∃ a c N, e = .returned (.tuple #[.agg #[.int .i64 M2, .slice a K2 c], .bool O2]) ∧ N.length = K2 ∧ bodies N = B2 ∧ LV w' W.heap.size w'.heap.size (.slice a K2 c) N ∧ Below W.heap.size W w') := fun W hU => by
      rw [QP.out.1, QP.out.2.1, QP.out.2.2.1]
      exact promVS hU m bal (bodies us) rfl K2 (by rw [QP.out.2.2.2, QP.out.2.2.1])
    go_upto_region 4 with fail
    rw [← EV.out]
    clear EV
    obtain ⟨T3_0, T3_1⟩ := T3.out.cells2
    obtain ⟨T6_0, T6_1, T6_2, T6_3, T6_4, T6_5, T6_6⟩ := T6.out.cells7
    go_wp2_with fail
    refine Calls.mono (CVI.out V U.out SX.out) ?_
    rintro e qX3 ⟨aX3, cX3, NX3, rfl, n_, y_, o_, b_⟩
    obtain ⟨X3, h_⟩ : ∃ x, x = qX3.alloc (.cells #[.int .i64 M1, .slice aX3 K1 cX3] 25) := ⟨_, rfl⟩
    have E_ : Hid (X3 = qX3.alloc (.cells #[.int .i64 M1, .slice aX3 K1 cX3] 25)) := h_
    have k_ : Below qX3.heap.size qX3 X3 := by rw [h_]; exact below_new _ _
    have j_ : Below V.heap.size V X3 := b_.trans (k_.mono b_.size)
    have T7 : Hid (Blk X3 qX3.heap.size #[.int .i64 M1, .slice aX3 K1 cX3] 25) := by show Blk _ _ _ _; rw [h_]; exact Blk.new _ _ _
    have LX3 : Hid (LV X3 V.heap.size qX3.heap.size (.slice aX3 K1 cX3) NX3) := o_.keep k_
    have GX3 : Hid (NX3.length = K1 ∧ bodies NX3 = B1) := ⟨n_, y_⟩
    have U : Hid (LV X3 w.heap.size w1.heap.size (.slice la us.length lc) us) := U.out.keep j_
    have T3 : Hid (Blk X3 w1.heap.size #[.int .i64 m, .slice la us.length lc] 25) := T3.out.keep j_
    have T6 : Hid (Blk X3 (w1.heap.size + 1) #[.bool bn, .int .i64 ep, .int .i64 eq, .slice a1 xs.length d1, .slice a2 ys.length d2, .int .i64 ev, .int .i64 ek] 33) := T6.out.keep j_
    have SX : Hid (SlE X3 a1 a2 xs ys) := SX.out.keep j_
    have BW : Hid (Below w.heap.size w X3) := BW.out.trans (j_.mono BW.out.size)
    clear h_ n_ y_ o_ b_ k_ j_
    go_upto_region 5 with fail
    rw [← E_.out]
    clear E_
    clear T3_0 T3_1 T6_0 T6_1 T6_2 T6_3 T6_4 T6_5 T6_6
    obtain ⟨T3_0, T3_1⟩ := T3.out.cells2
    obtain ⟨T6_0, T6_1, T6_2, T6_3, T6_4, T6_5, T6_6⟩ := T6.out.cells7
    go_wp2_with fail
    refine Calls.mono (CVS.out X3 U.out SX.out) ?_
    rintro e qX4 ⟨aX4, cX4, NX4, rfl, n_, y_, o_, b_⟩
    obtain ⟨X4, h_⟩ : ∃ x, x = qX4.alloc (.cells #[.int .i64 M1, .slice aX4 K1 cX4] 25) := ⟨_, rfl⟩
    have E_ : Hid (X4 = qX4.alloc (.cells #[.int .i64 M1, .slice aX4 K1 cX4] 25)) := h_
    have k_ : Below qX4.heap.size qX4 X4 := by rw [h_]; exact below_new _ _
    have j_ : Below X3.heap.size X3 X4 := b_.trans (k_.mono b_.size)
    have T9 : Hid (Blk X4 qX4.heap.size #[.int .i64 M1, .slice aX4 K1 cX4] 25) := by show Blk _ _ _ _; rw [h_]; exact Blk.new _ _ _
    have LX4 : Hid (LV X4 X3.heap.size qX4.heap.size (.slice aX4 K1 cX4) NX4) := o_.keep k_
    have GX4 : Hid (NX4.length = K1 ∧ bodies NX4 = B1) := ⟨n_, y_⟩
    have U : Hid (LV X4 w.heap.size w1.heap.size (.slice la us.length lc) us) := U.out.keep j_
    have T3 : Hid (Blk X4 w1.heap.size #[.int .i64 m, .slice la us.length lc] 25) := T3.out.keep j_
    have T6 : Hid (Blk X4 (w1.heap.size + 1) #[.bool bn, .int .i64 ep, .int .i64 eq, .slice a1 xs.length d1, .slice a2 ys.length d2, .int .i64 ev, .int .i64 ek] 33) := T6.out.keep j_
    have SX : Hid (SlE X4 a1 a2 xs ys) := SX.out.keep j_
    have T7 : Hid (Blk X4 qX3.heap.size #[.int .i64 M1, .slice aX3 K1 cX3] 25) := T7.out.keep j_
    have LX3 : Hid (LV X4 V.heap.size qX3.heap.size (.slice aX3 K1 cX3) NX3) := LX3.out.keep j_
    have BW : Hid (Below w.heap.size w X4) := BW.out.trans (j_.mono BW.out.size)
    clear h_ n_ y_ o_ b_ k_ j_
    go_upto_region 6 with fail
    rw [← E_.out]
    clear E_
    clear T3_0 T3_1 T6_0 T6_1 T6_2 T6_3 T6_4 T6_5 T6_6
    obtain ⟨T3_0, T3_1⟩ := T3.out.cells2
    go_wp2_with fail
    refine Calls.mono (CPI.out X4 U.out) ?_
    rintro e qX5 ⟨aX5, cX5, NX5, rfl, n_, y_, o_, b_⟩
    obtain ⟨X5, h_⟩ : ∃ x, x = qX5.alloc (.cells #[.int .i64 M2, .slice aX5 K2 cX5] 25) := ⟨_, rfl⟩
    have E_ : Hid (X5 = qX5.alloc (.cells #[.int .i64 M2, .slice aX5 K2 cX5] 25)) := h_
    have k_ : Below qX5.heap.size qX5 X5 := by rw [h_]; exact below_new _ _
    have j_ : Below X4.heap.size X4 X5 := b_.trans (k_.mono b_.size)
    have T11 : Hid (Blk X5 qX5.heap.size #[.int .i64 M2, .slice aX5 K2 cX5] 25) := by show Blk _ _ _ _; rw [h_]; exact Blk.new _ _ _
    have LX5 : Hid (LV X5 X4.heap.size qX5.heap.size (.slice aX5 K2 cX5) NX5) := o_.keep k_
    have GX5 : Hid (NX5.length = K2 ∧ bodies NX5 = B2) := ⟨n_, y_⟩
    have U : Hid (LV X5 w.heap.size w1.heap.size (.slice la us.length lc) us) := U.out.keep j_
    have T3 : Hid (Blk X5 w1.heap.size #[.int .i64 m, .slice la us.length lc] 25) := T3.out.keep j_
    have T6 : Hid (Blk X5 (w1.heap.size + 1) #[.bool bn, .int .i64 ep, .int .i64 eq, .slice a1 xs.length d1, .slice a2 ys.length d2, .int .i64 ev, .int .i64 ek] 33) := T6.out.keep j_
    have SX : Hid (SlE X5 a1 a2 xs ys) := SX.out.keep j_
    have T7 : Hid (Blk X5 qX3.heap.size #[.int .i64 M1, .slice aX3 K1 cX3] 25) := T7.out.keep j_
    have LX3 : Hid (LV X5 V.heap.size qX3.heap.size (.slice aX3 K1 cX3) NX3) := LX3.out.keep j_
    have T9 : Hid (Blk X5 qX4.heap.size #[.int .i64 M1, .slice aX4 K1 cX4] 25) := T9.out.keep j_
    have LX4 : Hid (LV X5 X3.heap.size qX4.heap.size (.slice aX4 K1 cX4) NX4) := LX4.out.keep j_
    have BW : Hid (Below w.heap.size w X5) := BW.out.trans (j_.mono BW.out.size)
    clear h_ n_ y_ o_ b_ k_ j_
    go_upto_region 7 with fail
    rw [← E_.out]
    clear E_
    clear T3_0 T3_1
    obtain ⟨T3_0, T3_1⟩ := T3.out.cells2
    go_wp2_with fail
    refine Calls.mono (CPS.out X5 U.out) ?_
    rintro e qX6 ⟨aX6, cX6, NX6, rfl, n_, y_, o_, b_⟩
    obtain ⟨X6, h_⟩ : ∃ x, x = qX6.alloc (.cells #[.int .i64 M2, .slice aX6 K2 cX6] 25) := ⟨_, rfl⟩
    have E_ : Hid (X6 = qX6.alloc (.cells #[.int .i64 M2, .slice aX6 K2 cX6] 25)) := h_
    have k_ : Below qX6.heap.size qX6 X6 := by rw [h_]; exact below_new _ _
    have j_ : Below X5.heap.size X5 X6 := b_.trans (k_.mono b_.size)
    have T13 : Hid (Blk X6 qX6.heap.size #[.int .i64 M2, .slice aX6 K2 cX6] 25) := by show Blk _ _ _ _; rw [h_]; exact Blk.new _ _ _
    have LX6 : Hid (LV X6 X5.heap.size qX6.heap.size (.slice aX6 K2 cX6) NX6) := o_.keep k_
    have GX6 : Hid (NX6.length = K2 ∧ bodies NX6 = B2) := ⟨n_, y_⟩
    have U : Hid (LV X6 w.heap.size w1.heap.size (.slice la us.length lc) us) := U.out.keep j_
    have T3 : Hid (Blk X6 w1.heap.size #[.int .i64 m, .slice la us.length lc] 25) := T3.out.keep j_
    have T6 : Hid (Blk X6 (w1.heap.size + 1) #[.bool bn, .int .i64 ep, .int .i64 eq, .slice a1 xs.length d1, .slice a2 ys.length d2, .int .i64 ev, .int .i64 ek] 33) := T6.out.keep j_
    have SX : Hid (SlE X6 a1 a2 xs ys) := SX.out.keep j_
    have T7 : Hid (Blk X6 qX3.heap.size #[.int .i64 M1, .slice aX3 K1 cX3] 25) := T7.out.keep j_
    have LX3 : Hid (LV X6 V.heap.size qX3.heap.size (.slice aX3 K1 cX3) NX3) := LX3.out.keep j_
    have T9 : Hid (Blk X6 qX4.heap.size #[.int .i64 M1, .slice aX4 K1 cX4] 25) := T9.out.keep j_
    have LX4 : Hid (LV X6 X3.heap.size qX4.heap.size (.slice aX4 K1 cX4) NX4) := LX4.out.keep j_
    have T11 : Hid (Blk X6 qX5.heap.size #[.int .i64 M2, .slice aX5 K2 cX5] 25) := T11.out.keep j_
    have LX5 : Hid (LV X6 X4.heap.size qX5.heap.size (.slice aX5 K2 cX5) NX5) := LX5.out.keep j_
    have BW : Hid (Below w.heap.size w X6) := BW.out.trans (j_.mono BW.out.size)
    clear h_ n_ y_ o_ b_ k_ j_
    go_upto_region 8 with fail
    rw [← E_.out]
    clear E_
    clear T3_0 T3_1
    have Q1 : Hid (∀ d os', Calls Try.prog 15 #[Value.agg #[Value.int .i64 M1, Value.slice aX3 K1 cX3], Value.agg #[Value.int .i64 M1, Value.slice aX4 K1 cX4]] (grow (redrawn X6 d) os') fun e w'' => e = .returned (.bool true) ∧ ∃ p : Regrown, w'' = grow (redrawn X6 p.d) p.os) := fun d os' => by
      have hb := below_regrown X6 d os'
      have h := sameI (LX3.out.keep hb) GX3.out.1 (LX4.out.keep hb) GX4.out.1 M1 (GX3.out.2.trans GX4.out.2.symm)
      exact Calls.regrown_of h
    have Q2 : Hid (∀ d os', Calls Try.prog 15 #[Value.agg #[Value.int .i64 M2, Value.slice aX5 K2 cX5], Value.agg #[Value.int .i64 M2, Value.slice aX6 K2 cX6]] (grow (redrawn X6 d) os') fun e w'' => e = .returned (.bool true) ∧ ∃ p : Regrown, w'' = grow (redrawn X6 p.d) p.os) := fun d os' => by
      have hb := below_regrown X6 d os'
      have h := sameI (LX5.out.keep hb) GX5.out.1 (LX6.out.keep hb) GX6.out.1 M2 (GX5.out.2.trans GX6.out.2.symm)
      exact Calls.regrown_of h
    have Q3 : Hid (∀ d os', Calls Try.prog 16 #[Value.agg #[Value.int .i64 m, Value.slice la us.length lc]] (grow (redrawn X6 d) os') fun e w'' => e = .returned (.bool G) ∧ ∃ p : Regrown, w'' = grow (redrawn X6 p.d) p.os) := fun d os' => Calls.regrown_of (by have h := okI (U.out.keep (below_regrown X6 d os')) rfl m rfl; rw [QG.out] at h; exact h)
    have Q4 : Hid (∀ d os', Calls Try.prog 17 #[Value.agg #[Value.int .i64 m, Value.slice la us.length lc]] (grow (redrawn X6 d) os') fun e w'' => e = .returned (.bool G) ∧ ∃ p : Regrown, w'' = grow (redrawn X6 p.d) p.os) := fun d os' => Calls.regrown_of (by have h := okS (U.out.keep (below_regrown X6 d os')) rfl m rfl; rw [QG.out] at h; exact h)
    have e1 : (O1 != O1) = false := by simp
    have e2 : (O2 != O2) = false := by simp
    have e3 : (G != G) = false := by simp
    obtain ⟨T3_0, T3_1⟩ := T3.out.cells2
    obtain ⟨T7_0, T7_1⟩ := T7.out.cells2
    obtain ⟨T9_0, T9_1⟩ := T9.out.cells2
    obtain ⟨T11_0, T11_1⟩ := T11.out.cells2
    obtain ⟨T13_0, T13_1⟩ := T13.out.cells2
    have rT3_0 := cell_regrown T3_0
    have rT3_1 := cell_regrown T3_1
    have rT7_0 := cell_regrown T7_0
    have rT7_1 := cell_regrown T7_1
    have rT9_0 := cell_regrown T9_0
    have rT9_1 := cell_regrown T9_1
    have rT11_0 := cell_regrown T11_0
    have rT11_1 := cell_regrown T11_1
    have rT13_0 := cell_regrown T13_0
    have rT13_1 := cell_regrown T13_1
    clear T3_0 T3_1 T7_0 T7_1 T9_0 T9_1 T11_0 T11_1 T13_0 T13_1
    refine wp_region_quiet_below (by kernel_rfl) (by kernel_rfl) ?_
    repeat (go_big_quiet_step (first | (go_at_call_of 15 (#[Value.agg #[Value.int .i64 M1, Value.slice aX3 K1 cX3], Value.agg #[Value.int .i64 M1, Value.slice aX4 K1 cX4]]); exact Q1.out _ _) | (go_at_call_of 15 (#[Value.agg #[Value.int .i64 M2, Value.slice aX5 K2 cX5], Value.agg #[Value.int .i64 M2, Value.slice aX6 K2 cX6]]); exact Q2.out _ _) | (go_at_call 16; exact Q3.out _ _) | (go_at_call 17; exact Q4.out _ _)))
    refine wpQuiet_nil ?_
    intro Y hw'
    obtain ⟨⟨dq, osq⟩, hw''⟩ := hw'
    have j_ : Below X6.heap.size X6 Y := by rw [hw'']; exact below_regrown X6 dq osq
    have U : Hid (LV Y w.heap.size w1.heap.size (.slice la us.length lc) us) := U.out.keep j_
    have T3 : Hid (Blk Y w1.heap.size #[.int .i64 m, .slice la us.length lc] 25) := T3.out.keep j_
    have T6 : Hid (Blk Y (w1.heap.size + 1) #[.bool bn, .int .i64 ep, .int .i64 eq, .slice a1 xs.length d1, .slice a2 ys.length d2, .int .i64 ev, .int .i64 ek] 33) := T6.out.keep j_
    have SX : Hid (SlE Y a1 a2 xs ys) := SX.out.keep j_
    have T7 : Hid (Blk Y qX3.heap.size #[.int .i64 M1, .slice aX3 K1 cX3] 25) := T7.out.keep j_
    have LX3 : Hid (LV Y V.heap.size qX3.heap.size (.slice aX3 K1 cX3) NX3) := LX3.out.keep j_
    have T11 : Hid (Blk Y qX5.heap.size #[.int .i64 M2, .slice aX5 K2 cX5] 25) := T11.out.keep j_
    have LX5 : Hid (LV Y X4.heap.size qX5.heap.size (.slice aX5 K2 cX5) NX5) := LX5.out.keep j_
    have BW : Hid (Below w.heap.size w Y) := BW.out.trans (j_.mono BW.out.size)
    clear j_ hw'' T9 T13 LX4 LX6 Q1 Q2 Q3 Q4 e1 e2 e3 CVI CVS CPI CPS GX4 GX6 rT3_0 rT3_1 rT7_0 rT7_1 rT9_0 rT9_1 rT11_0 rT11_1 rT13_0 rT13_1
    obtain ⟨T3_0, T3_1⟩ := T3.out.cells2
    go_wp2_with fail
    refine Calls.mono (show Calls Try.prog 17 #[.agg #[.int .i64 m, .slice la us.length lc]] Y fun e w' => e = .returned (.bool G) ∧ Below Y.heap.size Y w' from by have h := okS U.out rfl m rfl; rw [QG.out] at h; exact h) ?_
    rintro e Z ⟨rfl, j_⟩
    clear T3_0 T3_1
    have U : Hid (LV Z w.heap.size w1.heap.size (.slice la us.length lc) us) := U.out.keep j_
    have T3 : Hid (Blk Z w1.heap.size #[.int .i64 m, .slice la us.length lc] 25) := T3.out.keep j_
    have T6 : Hid (Blk Z (w1.heap.size + 1) #[.bool bn, .int .i64 ep, .int .i64 eq, .slice a1 xs.length d1, .slice a2 ys.length d2, .int .i64 ev, .int .i64 ek] 33) := T6.out.keep j_
    have SX : Hid (SlE Z a1 a2 xs ys) := SX.out.keep j_
    have T7 : Hid (Blk Z qX3.heap.size #[.int .i64 M1, .slice aX3 K1 cX3] 25) := T7.out.keep j_
    have LX3 : Hid (LV Z V.heap.size qX3.heap.size (.slice aX3 K1 cX3) NX3) := LX3.out.keep j_
    have T11 : Hid (Blk Z qX5.heap.size #[.int .i64 M2, .slice aX5 K2 cX5] 25) := T11.out.keep j_
    have LX5 : Hid (LV Z X4.heap.size qX5.heap.size (.slice aX5 K2 cX5) NX5) := LX5.out.keep j_
    have BW : Hid (Below w.heap.size w Z) := BW.out.trans (j_.mono BW.out.size)
    clear j_
    cases G with
    | false =>
      obtain ⟨z1, z2⟩ := acc_bad (bal := bal) (slot := slot) (x := ⟨bn, ep, eq, xs, ys, ev, ek⟩) QG.out
      have HO1 : O1 = false := by rw [QV.out.2.1]; exact z1
      have HO2 : O2 = false := by rw [QP.out.2.1]; exact z2
      subst HO1
      subst HO2
      go_wp2_with fail
      go_ret
      exact ⟨rfl, BW.out⟩
    | true =>
      obtain ⟨p1, p2, p3, p4⟩ := acc_prom (bal := bal) QG.out
      obtain ⟨v1, v2⟩ := acc_vote (bal := bal) (slot := slot) (x := ⟨bn, ep, eq, xs, ys, ev, ek⟩) QG.out
      rw [← QV.out.1, ← QV.out.2.1, ← QV.out.2.2.1] at v1 v2
      rw [← QP.out.1] at p2 p3
      rw [← QP.out.2.1] at p4
      rw [← QP.out.2.2.1] at p1
      have HB2 : Hid (B2 = bodies us) := p1
      have HV1 : Hid (O1 = false → M1 = m ∧ B1 = bodies us) := v1
      have HV2 : Hid (O1 = true → castOk m bal slot ⟨bn, ep, eq, xs, ys, ev, ek⟩ = true ∧ M1 = bal ∧ B1 = castB (bodies us) slot.toNat (bal, ⟨bn, ep, eq, xs, ys, ev, ek⟩) ∧ accOk bal (castB (bodies us) slot.toNat (bal, ⟨bn, ep, eq, xs, ys, ev, ek⟩)) = true ∧ m ≤ bal ∧ 1 ≤ bal ∧ bal ≤ 3000 ∧ 0 ≤ slot ∧ slot < 40) := v2
      have HP2 : Hid (accOk M2 B2 = true ∧ m ≤ M2 ∧ O2 = (isBal bal && decide (m ≤ bal))) := ⟨by rw [p1]; exact p2, p3, p4⟩
      have HX1 : Hid (accOk M1 B1 = true ∧ m ≤ M1) := by
        cases hO : O1 with
        | false => obtain ⟨q1, q2⟩ := v1 hO; exact ⟨by rw [q1, q2]; exact QG.out, by omega⟩
        | true => obtain ⟨_, q1, q2, q3, q4, _⟩ := v2 hO; exact ⟨by rw [q1, q2]; exact q3, by omega⟩
      clear p1 p2 p3 p4 v1 v2
      go_upto_region 12 with fail
      go_cut [131] from 94 to 130 (fun x wx => x = .bool false ∧ Hid (Below Z.heap.size Z wx))
      case first =>
        obtain ⟨T3_0, T3_1⟩ := T3.out.cells2
        obtain ⟨T7_0, T7_1⟩ := T7.out.cells2
        obtain ⟨T11_0, T11_1⟩ := T11.out.cells2
        have x1 : decide (M1 < m) = false := decide_eq_false (by have := HX1.out.2; omega)
        have x2 : decide (M2 < m) = false := decide_eq_false (by have := HP2.out.2.1; omega)
        have C1 : Hid (Calls Try.prog 16 #[.agg #[.int .i64 M1, .slice aX3 K1 cX3]] Z fun e w' => e = .returned (.bool true) ∧ Below Z.heap.size Z w') := by
          have h := okI LX3.out GX3.out.1 M1 GX3.out.2
          rw [HX1.out.1] at h
          exact h
        have C2 : Hid (∀ W, Below Z.heap.size Z W → Calls Try.prog 16 #[.agg #[.int .i64 M2, .slice aX5 K2 cX5]] W fun e w' => e = .returned (.bool true) ∧ Below W.heap.size W w') := fun W hb => by
          have h := okI (LX5.out.keep hb) GX5.out.1 M2 GX5.out.2
          rw [HP2.out.1] at h
          exact h
        go_wp2_with fail
        refine Calls.mono C1.out ?_
        rintro e y1 ⟨rfl, j1⟩
        have J1 : Hid (Below Z.heap.size Z y1) := j1
        obtain ⟨T11_0', T11_1'⟩ := (T11.out.keep J1.out).cells2
        clear j1 T3_0 T3_1 T7_0 T7_1 T11_0 T11_1
        go_wp2_with fail
        refine Calls.mono (C2.out y1 J1.out) ?_
        rintro e y2 ⟨rfl, j2⟩
        have J2 : Hid (Below Z.heap.size Z y2) := J1.out.trans (j2.mono J1.out.size)
        obtain ⟨T3_0, T3_1⟩ := (T3.out.keep J2.out).cells2
        obtain ⟨T7_0, T7_1⟩ := (T7.out.keep J2.out).cells2
        obtain ⟨T11_0, T11_1⟩ := (T11.out.keep J2.out).cells2
        clear j2 T11_0' T11_1'
        by_cases h1 : m ≤ bal
        · by_cases h2 : 1 ≤ bal
          · by_cases h3 : bal ≤ 3000
            · have hO : O2 = true := by rw [HP2.out.2.2, isBal_iff.2 ⟨h2, h3⟩]; simpa using h1
              subst hO
              go_wp2_with fail
              go_meet
              exact ⟨rfl, J2.out⟩
            · have hO : O2 = false := by rw [HP2.out.2.2, isBal_not.2 (by omega)]; rfl
              subst hO
              have h3' : decide (bal ≤ 3000) = false := decide_eq_false h3
              go_wp2_with fail
              go_meet
              exact ⟨rfl, J2.out⟩
          · have hO : O2 = false := by rw [HP2.out.2.2, isBal_not.2 (by omega)]; rfl
            subst hO
            have h2' : decide (1 ≤ bal) = false := decide_eq_false h2
            go_wp2_with fail
            go_meet
            exact ⟨rfl, J2.out⟩
        · have hO : O2 = false := by rw [HP2.out.2.2, show decide (m ≤ bal) = false from decide_eq_false h1]; simp
          subst hO
          have h1' : decide (m ≤ bal) = false := decide_eq_false h1
          go_wp2_with fail
          go_meet
          exact ⟨rfl, J2.out⟩
      case rest =>
        obtain ⟨rfl, j_⟩ := hcut
        rename World => Y2
        have U : Hid (LV Y2 w.heap.size w1.heap.size (.slice la us.length lc) us) := U.out.keep j_.out
        have T3 : Hid (Blk Y2 w1.heap.size #[.int .i64 m, .slice la us.length lc] 25) := T3.out.keep j_.out
        have T6 : Hid (Blk Y2 (w1.heap.size + 1) #[.bool bn, .int .i64 ep, .int .i64 eq, .slice a1 xs.length d1, .slice a2 ys.length d2, .int .i64 ev, .int .i64 ek] 33) := T6.out.keep j_.out
        have SX : Hid (SlE Y2 a1 a2 xs ys) := SX.out.keep j_.out
        have T7 : Hid (Blk Y2 qX3.heap.size #[.int .i64 M1, .slice aX3 K1 cX3] 25) := T7.out.keep j_.out
        have LX3 : Hid (LV Y2 V.heap.size qX3.heap.size (.slice aX3 K1 cX3) NX3) := LX3.out.keep j_.out
        have T11 : Hid (Blk Y2 qX5.heap.size #[.int .i64 M2, .slice aX5 K2 cX5] 25) := T11.out.keep j_.out
        have LX5 : Hid (LV Y2 X4.heap.size qX5.heap.size (.slice aX5 K2 cX5) NX5) := LX5.out.keep j_.out
        have BW : Hid (Below w.heap.size w Y2) := BW.out.trans (j_.out.mono BW.out.size)
        clear j_
        cases O1 with
        | false =>
          obtain ⟨rfl, hB⟩ := HV1.out rfl
          have BB : Hid (B1 = bodies us) := hB
          clear hB
          obtain ⟨T3_0, T3_1⟩ := T3.out.cells2
          obtain ⟨T7_0, T7_1⟩ := T7.out.cells2
          go_wp2_with fail
          refine Calls.mono (sameI LX3.out GX3.out.1 U.out rfl M1 (GX3.out.2.trans BB.out)) ?_
          rintro e Y3 ⟨rfl, j_⟩
          go_wp2_with fail
          go_ret
          exact ⟨rfl, BW.out.trans (j_.mono BW.out.size)⟩
        | true =>
          obtain ⟨c1, rfl, c3, c4, c5, c6, c7, c8, c9⟩ := HV2.out rfl
          obtain ⟨s, rfl⟩ : ∃ s : Nat, slot = s := ⟨slot.toNat, by omega⟩
          rw [Int.toNat_natCast] at c3 c4
          have ls : s < 40 := by omega
          obtain ⟨k1, k2, _⟩ := keep_prom QG.out c6 c7
          obtain ⟨k3, k4, _⟩ := k2 c5
          have EM2 : M2 = M1 := by rw [QP.out.1]; exact k3
          subst EM2
          obtain ⟨j1, j2, _⟩ := keep_prom (b := M2) (A := B2) HP2.out.1 c6 c7
          obtain ⟨j3, j4, _⟩ := j2 (Int.le_refl _)
          have PR : Hid (prM M2 M2 B2 = M2 ∧ prO M2 M2 B2 = true ∧ prB M2 B2 = B2) := ⟨j3, j4, j1⟩
          have AT : Hid (∀ i, (NX3.getD i v0).bal = ((castB (bodies us) s (M2, ⟨bn, ep, eq, xs, ys, ev, ek⟩)).getD i (0, e0)).1 ∧ (NX3.getD i v0).b = ((castB (bodies us) s (M2, ⟨bn, ep, eq, xs, ys, ev, ek⟩)).getD i (0, e0)).2) := fun i => bal_at (GX3.out.2.trans c3) i
          have LK : us.length ≤ K1 ∧ s < K1 := by
            have e := QV.out.2.2.2
            rw [c3, castB_lenV, bodies_len] at e
            omega
          have HKM : Hid (∀ k : Nat, k ≠ s → (NX3.getD k v0).bal = (us.getD k v0).bal ∧ (NX3.getD k v0).b = (us.getD k v0).b) := fun k hk => by
            have e := AT.out k
            rw [castB_at, if_neg (fun h => hk h.symm)] at e
            have f := bal_at (rfl : bodies us = bodies us) k
            exact ⟨e.1.trans f.1.symm, e.2.trans f.2.symm⟩
          have HKS : Hid ((NX3.getD s v0).bal = M2 ∧ (NX3.getD s v0).b = ⟨bn, ep, eq, xs, ys, ev, ek⟩) := by
            have e := AT.out s
            rw [castB_at, if_pos rfl] at e
            exact e
          have B2L : Hid (K2 = B2.length) := QP.out.2.2.2
          have CLO : Hid (∀ W, LV W V.heap.size qX3.heap.size (.slice aX3 K1 cX3) NX3 → SlE W a1 a2 xs ys → Calls Try.prog 11 #[.agg #[.int .i64 M2, .slice aX3 K1 cX3], .int .i64 (M2 - 1), .int .i64 s, .agg #[.bool bn, .int .i64 ep, .int .i64 eq, .slice a1 xs.length d1, .slice a2 ys.length d2, .int .i64 ev, .int .i64 ek]] W fun e w' => ∃ m' a c K', e = .returned (.tuple #[.agg #[.int .i64 m', .slice a K' c], .bool false]) ∧ Below W.heap.size W w') := fun W hU hS => by
            have h := voteVI hU M2 (M2 - 1) s ⟨bn, ep, eq, xs, ys, ev, ek⟩ hS.1 hS.2 FX.out.2.2.1 FX.out.2.2.2 FX.out.1 FX.out.2.1 B1 GX3.out.2 _ rfl
            rw [vote_low] at h
            exact h.mono fun e w' ⟨a, c, N, h1, _, _, _, h5⟩ => ⟨_, a, c, _, h1, h5⟩
          have CAG : Hid (∀ W, LV W X4.heap.size qX5.heap.size (.slice aX5 K2 cX5) NX5 → Calls Try.prog 13 #[.agg #[.int .i64 M2, .slice aX5 K2 cX5], .int .i64 M2] W fun e w' => ∃ a c N, e = .returned (.tuple #[.agg #[.int .i64 M2, .slice a K2 c], .bool true]) ∧ N.length = K2 ∧ bodies N = B2 ∧ LV w' W.heap.size w'.heap.size (.slice a K2 c) N ∧ Below W.heap.size W w') := fun W hU => by
            have h := promVI hU M2 M2 B2 GX5.out.2 K2 (by rw [PR.out.2.2, B2L.out])
            rw [PR.out.1, PR.out.2.1, PR.out.2.2] at h
            exact h
          have HBAL : Hid (1 ≤ M2 ∧ M2 ≤ 3000) := ⟨c6, c7⟩
          clear k1 k2 k3 k4 j1 j2 j3 j4 c1 c3 c4 c5 c8 c9 AT HV1 HV2 HX1 HP2 PR QV QP QG HB2
          go_wp2_with fail
          go_loopw [15] (fun i wr => ∃ k : Nat, k ≤ us.length ∧ i = .int .i64 k ∧ Hid (Below Y2.heap.size Y2 wr)) (fun i _ => us.length - (intOf i).toNat)
          case atStart => exact ⟨0, Nat.zero_le _, rfl, Below.refl _ _⟩
          case round =>
            rename World => wq
            obtain ⟨j, hj, rfl, KQ⟩ := hrel
            obtain ⟨T3_0, T3_1⟩ := (T3.out.keep KQ.out).cells2
            by_cases hlt : j < us.length
            · have hki : (j : Int) < (us.length : Int) := by omega
              by_cases hjs : j = s
              · have hne : ((j : Int) != (s : Int)) = false := by rw [hjs]; simp
                have r3_0 := cell_regrown T3_0
                have r3_1 := cell_regrown T3_1
                subst hjs
                go_upto_region 19 with fail
                clear T3_0 T3_1
                refine wp_region_quiet_below (by kernel_rfl) (by kernel_rfl) ?_
                repeat (go_big_quiet_step (fail))
                refine wpQuiet_nil ?_
                intro Y hw'
                obtain ⟨⟨dq, osq⟩, hw''⟩ := hw'
                have hx : Below wq.heap.size wq Y := by rw [hw'']; exact below_regrown wq dq osq
                have KY : Hid (Below Y2.heap.size Y2 Y) := KQ.out.trans (hx.mono KQ.out.size)
                clear hx hw''
                go_wp2_with fail
                go_roundw
                case rel => exact ⟨j + 1, by omega, by go_num, KY.out⟩
                case measure => simp [intOf]; omega
              · have hne : ((j : Int) != (s : Int)) = true := by simp; omega
                obtain ⟨T7_0, T7_1⟩ := (T7.out.keep KQ.out).cells2
                obtain ⟨gs, ea, ⟨f0, f1, f2, f3, f4, f5, f6, f7⟩, _⟩ := (LX3.out.keep KQ.out).vc GX3.out.1 (show j < K1 by omega)
                obtain ⟨gu, eb, ⟨h0, h1, h2, h3, h4, h5, h6, h7⟩, _⟩ := (U.out.keep KQ.out).vc rfl hlt
                obtain ⟨⟨s1, s2⟩, l1, l2⟩ := (LX3.out.keep KQ.out).sl GX3.out.1 (show j < K1 by omega)
                obtain ⟨⟨t1, t2⟩, _, _⟩ := (U.out.keep KQ.out).sl rfl hlt
                obtain ⟨mb, me⟩ := HKM.out j hjs
                have hjK : (j : Int) < (K1 : Int) := by omega
                rw [ea] at T7_1
                rw [eb] at T3_1
                obtain ⟨x, hx⟩ : ∃ x, x = NX3.getD j v0 := ⟨_, rfl⟩
                obtain ⟨y, hy⟩ : ∃ y, y = us.getD j v0 := ⟨_, rfl⟩
                rw [← hx] at f0 f1 f2 f3 f4 f5 f6 f7 s1 s2 l1 l2 mb me
                rw [← hy] at h0 h1 h2 h3 h4 h5 h6 h7 t1 t2 mb me
                clear hx hy
                obtain ⟨xbal, xb, xa1, xc1, xa2, xc2⟩ := x
                obtain ⟨ybal, yb, ya1, yc1, ya2, yc2⟩ := y
                simp only at f0 f1 f2 f3 f4 f5 f6 f7 s1 s2 l1 l2 h0 h1 h2 h3 h4 h5 h6 h7 t1 t2 mb me
                subst mb
                subst me
                have LL := likeE_self xb
                obtain ⟨xn, xp, xq, xxs, xys, xv, xk⟩ := xb
                simp only at f1 f2 f3 f4 f5 f6 f7 s1 s2 l1 l2 h1 h2 h3 h4 h5 h6 h7 t1 t2 LL
                have SQ : Hid (Sl wq xa1 xxs ∧ Sl wq xa2 xys ∧ Sl wq ya1 xxs ∧ Sl wq ya2 xys) := ⟨s1, s2, t1, t2⟩
                have EQ : Hid (∀ d os, Calls Try.prog 18 #[.agg #[.bool xn, .int .i64 xp, .int .i64 xq, .slice xa1 xxs.length xc1, .slice xa2 xys.length xc2, .int .i64 xv, .int .i64 xk], .agg #[.bool xn, .int .i64 xp, .int .i64 xq, .slice ya1 xxs.length yc1, .slice ya2 xys.length yc2, .int .i64 xv, .int .i64 xk]] (grow (redrawn wq d) os) fun e w'' => e = .returned (.bool true) ∧ ∃ p : Regrown, w'' = grow (redrawn wq p.d) p.os) := fun d os => by
                  have hb := below_regrown wq d os
                  have h := implCertLike xn xn xp xq xp xq xa1 xa2 ya1 ya2 xc1 xc2 yc1 yc2 xxs xys xxs xys xv xk xv xk _ (SQ.out.1.below hb) (SQ.out.2.1.below hb) (SQ.out.2.2.1.below hb) (SQ.out.2.2.2.below hb) (by omega) (by omega) (by omega) (by omega)
                  rw [LL] at h
                  exact Calls.regrown_of h
                have hb2 : (xbal != xbal) = false := by simp
                go_upto_region 19 with fail
                have n0 := cell_regrown f0
                have o0 := cell_regrown h0
                have n1 := cell_regrown f1
                have o1 := cell_regrown h1
                have n2 := cell_regrown f2
                have o2 := cell_regrown h2
                have n3 := cell_regrown f3
                have o3 := cell_regrown h3
                have n4 := cell_regrown f4
                have o4 := cell_regrown h4
                have n5 := cell_regrown f5
                have o5 := cell_regrown h5
                have n6 := cell_regrown f6
                have o6 := cell_regrown h6
                have n7 := cell_regrown f7
                have o7 := cell_regrown h7
                have r3_0 := cell_regrown T3_0
                have r3_1 := cell_regrown T3_1
                have r7_0 := cell_regrown T7_0
                have r7_1 := cell_regrown T7_1
                clear f0 h0 f1 h1 f2 h2 f3 h3 f4 h4 f5 h5 f6 h6 f7 h7 T3_0 T3_1 T7_0 T7_1
                clear s1 s2 t1 t2 LL l1 l2
                refine wp_region_quiet_below (by kernel_rfl) (by kernel_rfl) ?_
                repeat (go_big_quiet_step (first | (go_at_call 18; exact EQ.out _ _)))
                refine wpQuiet_nil ?_
                intro Y hw'
                obtain ⟨⟨dq, osq⟩, hw''⟩ := hw'
                have hx : Below wq.heap.size wq Y := by rw [hw'']; exact below_regrown wq dq osq
                have KY : Hid (Below Y2.heap.size Y2 Y) := KQ.out.trans (hx.mono KQ.out.size)
                clear hx hw''
                go_wp2_with fail
                go_roundw
                case rel => exact ⟨j + 1, by omega, by go_num, KY.out⟩
                case measure => simp [intOf]; omega
            · have hki : ¬ (j : Int) < (us.length : Int) := by omega
              clear hj hlt HKM
              obtain ⟨T11_0, T11_1⟩ := (T11.out.keep KQ.out).cells2
              go_wp2_with fail
              refine Calls.mono (CAG.out wq (LX5.out.keep KQ.out)) ?_
              rintro e v1 ⟨ag, cg, NG, rfl, hn1, hn2, oG, j1⟩
              obtain ⟨v2, h_⟩ : ∃ x, x = v1.alloc (.cells #[.int .i64 M2, .slice ag K2 cg] 25) := ⟨_, rfl⟩
              have E_ : Hid (v2 = v1.alloc (.cells #[.int .i64 M2, .slice ag K2 cg] 25)) := h_
              have k_ : Below v1.heap.size v1 v2 := by rw [h_]; exact below_new _ _
              have T16 : Hid (Blk v2 v1.heap.size #[.int .i64 M2, .slice ag K2 cg] 25) := by show Blk _ _ _ _; rw [h_]; exact Blk.new _ _ _
              have OG : Hid (LV v2 wq.heap.size v1.heap.size (.slice ag K2 cg) NG) := oG.keep k_
              have GG : Hid (NG.length = K2 ∧ bodies NG = B2) := ⟨hn1, hn2⟩
              have J2 : Hid (Below Y2.heap.size Y2 v2) := KQ.out.trans ((j1.trans (k_.mono j1.size)).mono KQ.out.size)
              clear h_ k_ hn1 hn2 oG j1 T11_0 T11_1 T3_0 T3_1
              go_upto_region 22 with fail
              rw [← E_.out]
              clear E_
              obtain ⟨T7_0, T7_1⟩ := (T7.out.keep J2.out).cells2
              obtain ⟨T6_0, T6_1, T6_2, T6_3, T6_4, T6_5, T6_6⟩ := (T6.out.keep J2.out).cells7
              have lb := HBAL.out
              go_wp2_with fail
              refine Calls.mono (CLO.out v2 (LX3.out.keep J2.out) (SX.out.keep J2.out)) ?_
              rintro e v3 ⟨m', a', c', K', rfl, j1⟩
              obtain ⟨X, h_⟩ : ∃ x, x = v3.alloc (.cells #[.int .i64 m', .slice a' K' c'] 25) := ⟨_, rfl⟩
              have E_ : Hid (X = v3.alloc (.cells #[.int .i64 m', .slice a' K' c'] 25)) := h_
              have k_ : Below v3.heap.size v3 X := by rw [h_]; exact below_new _ _
              have j_ : Below v2.heap.size v2 X := j1.trans (k_.mono j1.size)
              have JX : Hid (Below Y2.heap.size Y2 X) := J2.out.trans (j_.mono J2.out.size)
              have TX : Hid (Blk X v1.heap.size #[.int .i64 M2, .slice ag K2 cg] 25) := T16.out.keep j_
              have OX : Hid (LV X wq.heap.size v1.heap.size (.slice ag K2 cg) NG) := OG.out.keep j_
              clear h_ k_ j_ j1 T6_0 T6_1 T6_2 T6_3 T6_4 T6_5 T6_6 T7_0 T7_1 lb
              go_upto_region 23 with fail
              rw [← E_.out]
              clear E_
              obtain ⟨gs, ea, ⟨f0, f1, f2, f3, f4, f5, f6, f7⟩, _⟩ := (LX3.out.keep JX.out).vc GX3.out.1 LK.2
              obtain ⟨⟨s1, s2⟩, l1, l2⟩ := (LX3.out.keep JX.out).sl GX3.out.1 LK.2
              have hsK : (s : Int) < (K1 : Int) := by omega
              obtain ⟨mb, me⟩ := HKS.out
              obtain ⟨x, hx⟩ : ∃ x, x = NX3.getD s v0 := ⟨_, rfl⟩
              rw [← hx] at f0 f1 f2 f3 f4 f5 f6 f7 s1 s2 l1 l2 mb me
              clear hx
              obtain ⟨xbal, xb, xa1, xc1, xa2, xc2⟩ := x
              simp only at f0 f1 f2 f3 f4 f5 f6 f7 s1 s2 l1 l2 mb me
              rw [mb] at f0
              subst me
              simp only at f1 f2 f3 f4 f5 f6 f7 s1 s2 l1 l2
              obtain ⟨T7_0, T7_1⟩ := (T7.out.keep JX.out).cells2
              rw [ea] at T7_1
              obtain ⟨T6_0, T6_1, T6_2, T6_3, T6_4, T6_5, T6_6⟩ := (T6.out.keep JX.out).cells7
              obtain ⟨T11_0, T11_1⟩ := (T11.out.keep JX.out).cells2
              obtain ⟨TX_0, TX_1⟩ := TX.out.cells2
              have SQ : Hid (Sl X xa1 xs ∧ Sl X xa2 ys ∧ Sl X a1 xs ∧ Sl X a2 ys) := ⟨s1, s2, (SX.out.keep JX.out).1, (SX.out.keep JX.out).2⟩
              have EQ : Hid (∀ d os, Calls Try.prog 18 #[.agg #[.bool bn, .int .i64 ep, .int .i64 eq, .slice xa1 xs.length xc1, .slice xa2 ys.length xc2, .int .i64 ev, .int .i64 ek], .agg #[.bool bn, .int .i64 ep, .int .i64 eq, .slice a1 xs.length d1, .slice a2 ys.length d2, .int .i64 ev, .int .i64 ek]] (grow (redrawn X d) os) fun e w'' => e = .returned (.bool true) ∧ ∃ p : Regrown, w'' = grow (redrawn X p.d) p.os) := fun d os => by
                have hb := below_regrown X d os
                have h := implCertLike bn bn ep eq ep eq xa1 xa2 a1 a2 xc1 xc2 d1 d2 xs ys xs ys ev ek ev ek _ (SQ.out.1.below hb) (SQ.out.2.1.below hb) (SQ.out.2.2.1.below hb) (SQ.out.2.2.2.below hb) (by have := FX.out.1; omega) (by have := FX.out.2.1; omega) (by have := FX.out.1; omega) (by have := FX.out.2.1; omega)
                rw [likeE_self ⟨bn, ep, eq, xs, ys, ev, ek⟩] at h
                exact Calls.regrown_of h
              have ES : Hid (∀ d os, Calls Try.prog 15 #[.agg #[.int .i64 M2, .slice ag K2 cg], .agg #[.int .i64 M2, .slice aX5 K2 cX5]] (grow (redrawn X d) os) fun e w'' => e = .returned (.bool true) ∧ ∃ p : Regrown, w'' = grow (redrawn X p.d) p.os) := fun d os => by
                have hb := below_regrown X d os
                exact Calls.regrown_of (sameI (OX.out.keep hb) GG.out.1 ((LX5.out.keep JX.out).keep hb) GX5.out.1 M2 (GG.out.2.trans GX5.out.2.symm))
              have n0 := cell_regrown f0
              have n1 := cell_regrown f1
              have n2 := cell_regrown f2
              have n3 := cell_regrown f3
              have n4 := cell_regrown f4
              have n5 := cell_regrown f5
              have n6 := cell_regrown f6
              have n7 := cell_regrown f7
              have gT7_0 := cell_regrown T7_0
              have gT7_1 := cell_regrown T7_1
              have gT11_0 := cell_regrown T11_0
              have gT11_1 := cell_regrown T11_1
              have gTX_0 := cell_regrown TX_0
              have gTX_1 := cell_regrown TX_1
              have gT6_0 := cell_regrown T6_0
              have gT6_1 := cell_regrown T6_1
              have gT6_2 := cell_regrown T6_2
              have gT6_3 := cell_regrown T6_3
              have gT6_4 := cell_regrown T6_4
              have gT6_5 := cell_regrown T6_5
              have gT6_6 := cell_regrown T6_6
              clear f0 f1 f2 f3 f4 f5 f6 f7 T7_0 T7_1 T11_0 T11_1 TX_0 TX_1 T6_0 T6_1 T6_2 T6_3 T6_4 T6_5 T6_6
              clear s1 s2 l1 l2 mb
              refine wp_region_quiet_below (by kernel_rfl) (by kernel_rfl) ?_
              repeat (go_big_quiet_step (first | (go_at_call 18; exact EQ.out _ _) | (go_at_call 15; exact ES.out _ _)))
              refine wpQuiet_nil ?_
              intro Y hw'
              obtain ⟨⟨dq, osq⟩, hw''⟩ := hw'
              have hx : Below X.heap.size X Y := by rw [hw'']; exact below_regrown X dq osq
              have BY : Hid (Below w.heap.size w Y) := BW.out.trans ((JX.out.trans (hx.mono JX.out.size)).mono BW.out.size)
              clear hx hw''
              go_wp2_with fail
              go_ret
              exact ⟨rfl, BY.out⟩
  · have hd : decide ((1048576 : Int) < (n : Int)) = true := by simp; omega
    go_enter Try.func3, Try.ntmps3
    go_wp2_with fail
    go_ret
    exact ⟨rfl, Below.refl _ _⟩
end Go.Proofs.Ytfifiobcmdmefaa.Own
