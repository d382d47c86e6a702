/-
  Own text: what laws.szState, toState, eqState do.
-/
import Derived.Test.YtgcencilgpilaaaToD
import Derived.Test.YtgcencilgpilaaaEqD
import Derived.Test.YtgcencilgpilaaaTo
import Derived.Test.YtgcencilgpilaaaEq
namespace Go.Proofs.Ytgcencilgpilaaa.Own
open Go.RowKit
set_option linter.unusedVariables false
set_option linter.unusedSimpArgs false

set_option maxHeartbeats 1000000 in
theorem szState (z : Int) (a1 a2 : Option Addr) (n1 c1 n2 c2 : Nat) (left : Int) (w : World) (h1 : n1 ≤ maxLen) (h2 : n2 ≤ maxLen) (h0 : 0 ≤ left) (hm : left ≤ 2 ^ 60) :
    Calls Try.prog 49 #[.agg #[.int .i64 z, .slice a1 n1 c1, .slice a2 n2 c2], .int .i64 left] w fun e w' => e = .returned (.int .i64 (if left - n1 - n2 < 0 then -1 else left - n1 - n2)) ∧ Below w.heap.size w w' := by
  have B0 : ∀ o, Hid (Below w.heap.size w (w.alloc o)) := fun o => (Below.refl _ _).alloc (Nat.le_refl _) _
  by_cases t : left - n1 < 0
  · go_enter Try.func49, Try.ntmps49
    go_wp2_with fail
    refine (szBoxS a1 n1 c1 left _ h1 h0 hm).mono ?_
    rintro e w' ⟨rfl, rfl⟩
    rw [if_pos (by omega)]
    go_wp2_with fail
    go_ret
    exact ⟨ret_int (by first | rfl | rw [if_pos (by omega)]), (B0 _).out⟩
  · by_cases t2 : left - n1 - n2 < 0
    · go_enter Try.func49, Try.ntmps49
      go_wp2_with fail
      refine (szBoxS a1 n1 c1 left _ h1 h0 hm).mono ?_
      rintro e w' ⟨rfl, rfl⟩
      rw [if_neg (by omega)]
      go_wp2_with fail
      refine (szDoneS a2 n2 c2 (left - n1) _ h2 (by omega) (by omega)).mono ?_
      rintro e w' ⟨rfl, rfl⟩
      rw [if_pos (by omega)]
      go_wp2_with fail
      go_ret
      exact ⟨ret_int (by first | rfl | rw [if_pos (by omega)]), (B0 _).out⟩
    · go_enter Try.func49, Try.ntmps49
      go_wp2_with fail
      refine (szBoxS a1 n1 c1 left _ h1 h0 hm).mono ?_
      rintro e w' ⟨rfl, rfl⟩
      rw [if_neg (by omega)]
      go_wp2_with fail
      refine (szDoneS a2 n2 c2 (left - n1) _ h2 (by omega) (by omega)).mono ?_
      rintro e w' ⟨rfl, rfl⟩
      rw [if_neg (by omega)]
      go_wp2_with fail
      go_ret
      exact ⟨ret_int (by first | rfl | rw [if_neg (by omega)]), (B0 _).out⟩

/-- What there is, in memory of its own: two rows. -/
def StOwn (w : World) (B g1 g2 : Nat) (bs : List P2) (ds : List Q4) : Prop := B ≤ g1 ∧ B ≤ g2 ∧ g1 ≠ g2 ∧ BoxAt w g1 0 bs ∧ At4 w g2 0 ds ∧ Row w g1 bs.length ∧ RowD w g2 ds.length
theorem Row.block {w w' : World} {b n : Nat} (h : Row w b n) (hb : w'.heap[b]? = w.heap[b]?) : Row w' b n := by
  obtain ⟨C, h1, h2⟩ := h
  exact ⟨C, by rw [hb]; exact h1, h2⟩
theorem RowD.block {w w' : World} {b n : Nat} (h : RowD w b n) (hb : w'.heap[b]? = w.heap[b]?) : RowD w' b n := by
  obtain ⟨C, h1, h2⟩ := h
  exact ⟨C, by rw [hb]; exact h1, h2⟩
theorem At4.block {w w' : World} {b off : Nat} {xs : List Q4} (h : At4 w b off xs) (hs : w.heap.size ≤ w'.heap.size) (hb : w'.heap[b]? = w.heap[b]?) : At4 w' b off xs :=
  h.congr (Nat.lt_of_lt_of_le h.1 hs) fun o => World.cell?_of_block (w := w) (a := ⟨b, o, none⟩) hb
theorem StOwn.below {w w' : World} {B g1 g2 : Nat} {bs : List P2} {ds : List Q4} (h : StOwn w B g1 g2 bs ds) (hb : Below w.heap.size w w') : StOwn w' B g1 g2 bs ds :=
  ⟨h.1, h.2.1, h.2.2.1, h.2.2.2.1.below hb, h.2.2.2.2.1.below hb, h.2.2.2.2.2.1.below hb h.2.2.2.1.1, h.2.2.2.2.2.2.below hb h.2.2.2.2.1.1⟩
theorem StOwn.keep {w w' : World} {B N g1 g2 : Nat} {bs : List P2} {ds : List Q4} (h : StOwn w B g1 g2 bs ds) (hk : KeepFrom N w w') (h1 : N ≤ g1) (h2 : N ≤ g2) : StOwn w' B g1 g2 bs ds :=
  ⟨h.1, h.2.1, h.2.2.1, h.2.2.2.1.block (Nat.le_of_eq hk.1.symm) (hk.2 _ h1), h.2.2.2.2.1.block (Nat.le_of_eq hk.1.symm) (hk.2 _ h2), h.2.2.2.2.2.1.block (hk.2 _ h1), h.2.2.2.2.2.2.block (hk.2 _ h2)⟩
theorem StOwn.sl {w : World} {B g1 g2 : Nat} {bs : List P2} {ds : List Q4} (h : StOwn w B g1 g2 bs ds) : Sl w (some ⟨g1, 0, none⟩) bs ∧ Sl4 w (some ⟨g2, 0, none⟩) ds := ⟨.inr ⟨_, _, rfl, h.2.2.2.1⟩, .inr ⟨_, _, rfl, h.2.2.2.2.1⟩⟩

set_option maxRecDepth 100000 in
set_option maxHeartbeats 1000000 in
theorem eqState (z : Int) (a1 a2 b1 b2 : Option Addr) (c1 c2 d1 d2 : Nat) (bs : List P2) (ds : List Q4) (w : World) (h1 : Sl w a1 bs) (h2 : Sl4 w a2 ds) (h3 : Sl w b1 bs) (h4 : Sl4 w b2 ds)
    (n1 : bs.length ≤ 2 ^ 40) (n2 : ds.length ≤ 2 ^ 40) :
    Calls Try.prog 46 #[.agg #[.int .i64 z, .slice a1 bs.length c1, .slice a2 ds.length c2], .agg #[.int .i64 z, .slice b1 bs.length d1, .slice b2 ds.length d2]] w fun e w' => e = .returned (.bool true) ∧ Below w.heap.size w w' := by
  have H1 : Hid (Sl w a1 bs) := h1
  have H2 : Hid (Sl4 w a2 ds) := h2
  have H3 : Hid (Sl w b1 bs) := h3
  have H4 : Hid (Sl4 w b2 ds) := h4
  clear h1 h2 h3 h4
  obtain ⟨W, hW⟩ : ∃ W, W = (w.alloc (.cells #[.int .i64 z, .slice a1 bs.length c1, .slice a2 ds.length c2] 70)).alloc (.cells #[.int .i64 z, .slice b1 bs.length d1, .slice b2 ds.length d2] 70) := ⟨_, rfl⟩
  have BW : Hid (Below w.heap.size w W) := by
    show Below _ _ _
    rw [hW]; exact ((Below.refl _ _).alloc (Nat.le_refl _) _).alloc (by simp) _
  have G0 : Hid (Blk W w.heap.size #[.int .i64 z, .slice a1 bs.length c1, .slice a2 ds.length c2] 70) := by show Blk _ _ _ _; rw [hW]; exact (Blk.new _ _ _).alloc _
  have G1 : Hid (Blk W (w.heap.size + 1) #[.int .i64 z, .slice b1 bs.length d1, .slice b2 ds.length d2] 70) := by show Blk _ _ _ _; rw [hW]; exact Blk.new2 _ _ _ _
  have HW : Hid (W = _) := hW
  clear hW
  have ez : (z != z) = false := by simp
  go_enter Try.func46, Try.ntmps46
  go_wp2_with fail
  rw [← HW.out]
  refine (eqBoxS a1 b1 c1 d1 bs bs W (H1.out.below BW.out) (H3.out.below BW.out) n1 n1).mono ?_
  rintro e w1 ⟨rfl, b1'⟩
  rw [show (bs == bs) = true from by simp]
  have B1 : Hid (Below w.heap.size w w1) := BW.out.trans (b1'.mono BW.out.size)
  obtain ⟨q0, q1, q2⟩ := (G0.out.keep b1').cells3
  obtain ⟨r0, r1, r2⟩ := (G1.out.keep b1').cells3
  clear b1'
  go_wp2_with fail
  refine (eqDoneS a2 b2 c2 d2 ds ds w1 (H2.out.below B1.out) (H4.out.below B1.out) n2 n2).mono ?_
  rintro e w2 ⟨rfl, b2'⟩
  rw [show (ds == ds) = true from by simp]
  have B2 : Hid (Below w.heap.size w w2) := B1.out.trans (b2'.mono B1.out.size)
  clear b2' q0 q1 q2 r0 r1 r2
  go_wp2_with fail
  go_ret
  exact ⟨rfl, B2.out⟩

set_option maxRecDepth 100000 in
set_option maxHeartbeats 1000000 in
theorem toState (z : Int) (a1 a2 : Option Addr) (c1 c2 : Nat) (bs : List P2) (ds : List Q4) (w : World) (h1 : Sl w a1 bs) (h2 : Sl4 w a2 ds) (hn1 : bs.length ≤ 2 ^ 40) (hn2 : ds.length ≤ 2 ^ 40) :
    Calls Try.prog 51 #[.agg #[.int .i64 z, .slice a1 bs.length c1, .slice a2 ds.length c2]] w fun e w' => ∃ g1 g2, e = .returned (.agg #[.int .i64 z, .slice (some ⟨g1, 0, none⟩) bs.length bs.length, .slice (some ⟨g2, 0, none⟩) ds.length ds.length]) ∧ StOwn w' w.heap.size g1 g2 bs ds ∧ Below w.heap.size w w' := by
  have H1 : Hid (Sl w a1 bs) := h1
  have H2 : Hid (Sl4 w a2 ds) := h2
  clear h1 h2
  obtain ⟨W, hW⟩ : ∃ W, W = ((w.alloc (.cells #[.int .i64 z, .slice a1 bs.length c1, .slice a2 ds.length c2] 77)).alloc (.cells #[.int .i64 0, .slice none 0 0, .slice none 0 0] 70)).alloc (.cells #[.int .i64 z, .slice none 0 0, .slice none 0 0] 70) := ⟨_, rfl⟩
  have BW : Hid (Below w.heap.size w W) := by
    show Below _ _ _
    rw [hW]; exact ((((Below.refl _ _).alloc (Nat.le_refl _) _).alloc (by simp) _).alloc (by simp; omega) _)
  have SW : Hid (W.heap.size = w.heap.size + 3) := by show _ = _; rw [hW]; simp
  have G0 : Hid (Blk W w.heap.size #[.int .i64 z, .slice a1 bs.length c1, .slice a2 ds.length c2] 77) := by
    show Blk _ _ _ _; rw [hW]; exact ((Blk.new _ _ _).alloc _).alloc _
  have G1 : Hid (Blk W (w.heap.size + 1) #[.int .i64 0, .slice none 0 0, .slice none 0 0] 70) := by
    show Blk _ _ _ _; rw [hW]; exact (Blk.new2 _ _ _ _).alloc _
  have G2 : Hid (Blk W (w.heap.size + 1 + 1) #[.int .i64 z, .slice none 0 0, .slice none 0 0] 70) := by
    show Blk _ _ _ _; rw [hW]; exact Blk.new3 _ _ _ _ _
  have HW : Hid (W = _) := hW
  clear hW
  go_enter Try.func51, Try.ntmps51
  go_wp2_with fail
  rw [← HW.out]
  refine (toBoxS a1 c1 bs W (H1.out.below BW.out) hn1).mono ?_
  rintro e w1 ⟨rfl, at1, row1, b1⟩
  have B1 : Hid (Below w.heap.size w w1) := BW.out.trans (b1.mono BW.out.size)
  have S1 : Hid (W.heap.size < w1.heap.size) := at1.1
  have A1 : Hid (BoxAt w1 W.heap.size 0 bs) := at1
  have R1 : Hid (Row w1 W.heap.size bs.length) := row1
  have D0 : Hid (Blk w1 w.heap.size _ _) := G0.out.keep b1
  have D1 : Hid (Blk w1 (w.heap.size + 1) _ _) := G1.out.keep b1
  have D2 : Hid (Blk w1 (w.heap.size + 1 + 1) _ _) := G2.out.keep b1
  clear b1 at1 row1
  obtain ⟨q0, q1, q2⟩ := D0.out.cells3
  obtain ⟨r0, r1, r2⟩ := D2.out.cells3
  have f1 := D2.out.frozen 1
  go_wp2_with fail
  obtain ⟨W2, hW2⟩ : ∃ W2, W2 = w1.setCell ⟨w.heap.size + 1 + 1, 1, none⟩ (.slice (some ⟨W.heap.size, 0, none⟩) bs.length bs.length) := ⟨_, rfl⟩
  have E1 : Hid (Blk W2 (w.heap.size + 1) #[.int .i64 0, .slice none 0 0, .slice none 0 0] 70) := by show Blk _ _ _ _; rw [hW2]; exact D1.out.other (by omega) _ _
  have E2 : Hid (Blk W2 (w.heap.size + 1 + 1) #[.int .i64 z, .slice (some ⟨W.heap.size, 0, none⟩) bs.length bs.length, .slice none 0 0] 70) := by show Blk _ _ _ _; rw [hW2]; exact D2.out.set _ _
  have B2 : Hid (Below w.heap.size w W2) := by show Below _ _ _; rw [hW2]; exact B1.out.setCell (by show w.heap.size ≤ w.heap.size + 1 + 1; omega) _
  have S2 : Hid (W2.heap.size = w1.heap.size) := by show _ = _; rw [hW2]; simp [World.setCell]
  have K2 : Hid (KeepFrom (w.heap.size + 3) w1 W2) := by show KeepFrom _ _ _; rw [hW2]; exact (KeepFrom.refl _ _).setCell (by show w.heap.size + 1 + 1 < _; omega) _
  have HW2 : Hid (W2 = _) := hW2
  rw [← HW2.out]
  clear hW2 q0 q1 q2 r0 r1 r2 f1
  refine (toDoneS a2 c2 ds W2 (H2.out.below B2.out) hn2).mono ?_
  rintro e w3 ⟨rfl, at3, row3, b3⟩
  have F1 : Hid (Blk w3 (w.heap.size + 1) _ _) := E1.out.keep b3
  have F2 : Hid (Blk w3 (w.heap.size + 1 + 1) _ _) := E2.out.keep b3
  have B3 : Hid (Below w.heap.size w w3) := B2.out.trans (b3.mono B2.out.size)
  have O3 : Hid (StOwn w3 w.heap.size W.heap.size W2.heap.size bs ds) := by
    have e1 := (b3.block W.heap.size (by have := S2.out; have := S1.out; omega)).trans (K2.out.2 W.heap.size (by have := SW.out; omega))
    exact ⟨by have := SW.out; omega, by have := S2.out; have := S1.out; have := SW.out; omega, by have := S2.out; have := S1.out; omega, A1.out.block (by have := S2.out; have := b3.size; omega) e1, at3, R1.out.block e1, row3⟩
  have N3 : Hid (w.heap.size + 3 ≤ W.heap.size ∧ w.heap.size + 3 ≤ W2.heap.size) := ⟨by have := SW.out; omega, by have := S2.out; have := S1.out; have := SW.out; omega⟩
  clear b3 at3 row3
  obtain ⟨i0, i1, i2⟩ := F1.out.cells3
  obtain ⟨o0, o1, o2⟩ := F2.out.cells3
  have fo := F2.out.frozen
  have fi := F1.out.frozen
  go_wp2
  refine bodyPost_ret (v := .agg #[.int .i64 z, .slice (some ⟨W.heap.size, 0, none⟩) bs.length bs.length, .slice (some ⟨W2.heap.size, 0, none⟩) ds.length ds.length]) (by simp [results, Try.results51, go_sem, i0, i1, i2]) rfl ⟨W.heap.size, W2.heap.size, rfl, ?_, ?_⟩
  · have KK : KeepFrom (w.heap.size + 3) w3 _ := ((((KeepFrom.refl (w.heap.size + 3) w3).setCell (p := ⟨w.heap.size + 1 + 1, 2, none⟩) (by show w.heap.size + 1 + 1 < _; omega) (.slice (some ⟨W2.heap.size, 0, none⟩) ds.length ds.length)).setCell (p := ⟨w.heap.size + 1, 0, none⟩) (by show w.heap.size + 1 < _; omega) (.int .i64 z)).setCell (p := ⟨w.heap.size + 1, 1, none⟩) (by show w.heap.size + 1 < _; omega) (.slice (some ⟨W.heap.size, 0, none⟩) bs.length bs.length)).setCell (p := ⟨w.heap.size + 1, 2, none⟩) (by show w.heap.size + 1 < _; omega) (.slice (some ⟨W2.heap.size, 0, none⟩) ds.length ds.length)
    exact O3.out.keep KK N3.out.1 N3.out.2
  · have s2 : w.heap.size ≤ w.heap.size + 1 + 1 := by omega
    have s1 : w.heap.size ≤ w.heap.size + 1 := by omega
    exact (((B3.out.setCell s2 _).setCell s1 _).setCell s1 _).setCell s1 _
end Go.Proofs.Ytgcencilgpilaaa.Own
