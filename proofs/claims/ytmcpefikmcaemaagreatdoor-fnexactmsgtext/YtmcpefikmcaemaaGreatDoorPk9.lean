/-
  Own texts, bundled: MsgOps, MsgX.
-/
import Derived.Test.YtmcpefikmcaemaaGreatDoorPk8
namespace Go.Proofs.YtmcpefikmcaemaaGreatDoor.Own
open Go.RowKit
set_option linter.unusedVariables false
set_option linter.unusedSimpArgs false

theorem Blk.cells13 {w : World} {b : Nat} {x0 x1 x2 x3 x4 x5 x6 x7 x8 x9 x10 x11 x12 : Value} {t : TypeId} (h : Blk w b #[x0, x1, x2, x3, x4, x5, x6, x7, x8, x9, x10, x11, x12] t) : w.cell? ⟨b, 0, none⟩ = some x0 ∧ w.cell? ⟨b, 1, none⟩ = some x1 ∧ w.cell? ⟨b, 2, none⟩ = some x2 ∧ w.cell? ⟨b, 3, none⟩ = some x3 ∧ w.cell? ⟨b, 4, none⟩ = some x4 ∧ w.cell? ⟨b, 5, none⟩ = some x5 ∧ w.cell? ⟨b, 6, none⟩ = some x6 ∧ w.cell? ⟨b, 7, none⟩ = some x7 ∧ w.cell? ⟨b, 8, none⟩ = some x8 ∧ w.cell? ⟨b, 9, none⟩ = some x9 ∧ w.cell? ⟨b, 10, none⟩ = some x10 ∧ w.cell? ⟨b, 11, none⟩ = some x11 ∧ w.cell? ⟨b, 12, none⟩ = some x12 :=
  ⟨by rw [h.cell]; rfl, by rw [h.cell]; rfl, by rw [h.cell]; rfl, by rw [h.cell]; rfl, by rw [h.cell]; rfl, by rw [h.cell]; rfl, by rw [h.cell]; rfl, by rw [h.cell]; rfl, by rw [h.cell]; rfl, by rw [h.cell]; rfl, by rw [h.cell]; rfl, by rw [h.cell]; rfl, by rw [h.cell]; rfl⟩

set_option maxRecDepth 100000 in
set_option maxHeartbeats 1000000 in
theorem szMsg (kd sr ds bl st : Int) (n : Bool) (p q : Int) (a1 a2 : Option Addr) (c1 c2 : Nat) (xs ys : List P2) (v k : Int) (a : Option Addr) (c : Nat) (vs : List VM) (left : Int) (w : World) (hx : xs.length ≤ maxLen) (hy : ys.length ≤ maxLen) (h : SlV w a vs) (hl : vs.length ≤ maxLen) (hm : VM0 vs) (h0 : 0 ≤ left) (h1 : left ≤ 2 ^ 60) :
    Calls Tryz.prog 16 #[.agg #[.int .i64 kd, .int .i64 sr, .int .i64 ds, .int .i64 bl, .int .i64 st, .bool n, .int .i64 p, .int .i64 q, .slice a1 xs.length c1, .slice a2 ys.length c2, .int .i64 v, .int .i64 k, .slice a vs.length c], .int .i64 left] w fun e w' => e = .returned (.int .i64 (if left < (xs.length + ys.length + (vs.length + sumV vs vs.length) : Nat) then -1 else left - (xs.length + ys.length + (vs.length + sumV vs vs.length) : Nat))) ∧ Below w.heap.size w w' := by
  obtain ⟨W, hW⟩ : ∃ W, W = w.alloc (.cells #[.int .i64 kd, .int .i64 sr, .int .i64 ds, .int .i64 bl, .int .i64 st, .bool n, .int .i64 p, .int .i64 q, .slice a1 xs.length c1, .slice a2 ys.length c2, .int .i64 v, .int .i64 k, .slice a vs.length c] 50) := ⟨_, rfl⟩
  have BW : Hid (Below w.heap.size w W) := by show Below _ _ _; rw [hW]; exact (Below.refl _ _).alloc (Nat.le_refl _) _
  have G0 : Hid (Blk W w.heap.size #[.int .i64 kd, .int .i64 sr, .int .i64 ds, .int .i64 bl, .int .i64 st, .bool n, .int .i64 p, .int .i64 q, .slice a1 xs.length c1, .slice a2 ys.length c2, .int .i64 v, .int .i64 k, .slice a vs.length c] 50) := by show Blk _ _ _ _; rw [hW]; exact Blk.new _ _ _
  have HW : Hid (W = _) := hW
  clear hW
  have HS : Hid (SlV W a vs) := h.below BW.out
  have HM : Hid (VM0 vs) := hm
  have C1 := szEntry n p q a1 a2 xs.length c1 ys.length c2 v k left W hx hy h0 h1
  have C2 : Hid (∀ w' z, Below W.heap.size W w' → 0 ≤ z → z ≤ 2 ^ 60 → Calls Tryz.prog 48 #[.slice a vs.length c, .int .i64 z] w' fun e w'' => e = .returned (.int .i64 (if z < (vs.length + sumV vs vs.length : Nat) then -1 else z - (vs.length + sumV vs vs.length : Nat))) ∧ Below w'.heap.size w' w'') := fun w' z hb hz hz2 => szVoteS a c vs z w' (HS.out.below hb) hl HM.out hz hz2
  clear h hm
  generalize (vs.length + sumV vs vs.length) = T at C2 ⊢
  by_cases hb : left - (xs.length : Int) - (ys.length : Int) < 0
  · rw [if_pos hb] at C1
    have HC : Hid (Calls _ _ _ _ _) := C1
    rw [if_pos (by omega)]
    clear C1 hb
    go_enter Tryz.func16, Tryz.ntmps16
    go_wp2_with fail
    rw [← HW.out]
    refine Calls.mono HC.out ?_
    rintro e w1 ⟨rfl, b1⟩
    have B1 : Hid (Below w.heap.size w w1) := BW.out.trans (b1.mono BW.out.size)
    clear b1
    go_wp2_with fail
    go_ret
    exact ⟨rfl, B1.out⟩
  · rw [if_neg hb] at C1
    have hz0 : 0 ≤ left - (xs.length : Int) - (ys.length : Int) := by omega
    have hz1 : left - (xs.length : Int) - (ys.length : Int) ≤ 2 ^ 60 := by omega
    have C3 : Hid (∀ w', Below W.heap.size W w' → Calls Tryz.prog 48 #[.slice a vs.length c, .int .i64 (left - (xs.length : Int) - (ys.length : Int))] w' fun e w'' => e = .returned (.int .i64 (if left < (xs.length + ys.length + T : Nat) then -1 else left - (xs.length + ys.length + T : Nat))) ∧ Below w'.heap.size w' w'') := fun w' hb => by
      have h := C2.out w' _ hb hz0 hz1
      have e : (if left - (xs.length : Int) - (ys.length : Int) < (T : Nat) then (-1 : Int) else left - (xs.length : Int) - (ys.length : Int) - (T : Nat)) = (if left < (xs.length + ys.length + T : Nat) then -1 else left - (xs.length + ys.length + T : Nat)) := by
        by_cases h1 : left < (xs.length + ys.length + T : Nat)
        · rw [if_pos h1, if_pos (by omega)]
        · rw [if_neg h1, if_neg (by omega)]; omega
      rw [e] at h
      exact h
    clear C2
    generalize left - (xs.length : Int) - (ys.length : Int) = z at C1 C3 hb hz0 hz1
    have HC : Hid (Calls _ _ _ _ _) := C1
    by_cases hlt : left < (xs.length + ys.length + T : Nat)
    · rw [if_pos hlt] at C3 ⊢
      clear C1 hlt
      go_enter Tryz.func16, Tryz.ntmps16
      go_wp2_with fail
      rw [← HW.out]
      refine Calls.mono HC.out ?_
      rintro e w1 ⟨rfl, b1⟩
      have B1 : Hid (Below W.heap.size W w1) := b1
      obtain ⟨q0, q1, q2, q3, q4, q5, q6, q7, q8, q9, q10, q11, q12⟩ := (G0.out.keep b1).cells13
      clear b1
      go_wp2_with fail
      refine (C3.out _ B1.out).mono ?_
      rintro e w2 ⟨rfl, b2⟩
      have B2 : Hid (Below w.heap.size w w2) := BW.out.trans ((B1.out.trans (b2.mono B1.out.size)).mono BW.out.size)
      clear b2
      go_wp2_with fail
      go_ret
      exact ⟨rfl, B2.out⟩
    · rw [if_neg hlt] at C3 ⊢
      have hp : ¬ left - ((xs.length + ys.length + T : Nat) : Int) < 0 := by omega
      generalize left - ((xs.length + ys.length + T : Nat) : Int) = u at C3 hp ⊢
      clear C1 hlt
      go_enter Tryz.func16, Tryz.ntmps16
      go_wp2_with fail
      rw [← HW.out]
      refine Calls.mono HC.out ?_
      rintro e w1 ⟨rfl, b1⟩
      have B1 : Hid (Below W.heap.size W w1) := b1
      obtain ⟨q0, q1, q2, q3, q4, q5, q6, q7, q8, q9, q10, q11, q12⟩ := (G0.out.keep b1).cells13
      clear b1
      go_wp2_with fail
      refine (C3.out _ B1.out).mono ?_
      rintro e w2 ⟨rfl, b2⟩
      have B2 : Hid (Below w.heap.size w w2) := BW.out.trans ((B1.out.trans (b2.mono B1.out.size)).mono BW.out.size)
      clear b2
      go_wp2_with fail
      go_ret
      exact ⟨rfl, B2.out⟩

set_option maxRecDepth 100000 in
set_option maxHeartbeats 2000000 in
theorem toMsg (kd sr ds bl st : Int) (n : Bool) (p q : Int) (a1 a2 : Option Addr) (c1 c2 : Nat) (xs ys : List P2) (v k : Int) (a : Option Addr) (c : Nat) (vs : List VM) (w : World) (h1 : Sl w a1 xs) (h2 : Sl w a2 ys) (hx : xs.length ≤ 2 ^ 40) (hy : ys.length ≤ 2 ^ 40) (h : SlV w a vs) (hn : vs.length ≤ 2 ^ 40) (hl : VL0 vs) :
    Calls Tryz.prog 17 #[.agg #[.int .i64 kd, .int .i64 sr, .int .i64 ds, .int .i64 bl, .int .i64 st, .bool n, .int .i64 p, .int .i64 q, .slice a1 xs.length c1, .slice a2 ys.length c2, .int .i64 v, .int .i64 k, .slice a vs.length c]] w fun e w' => ∃ g1 g2 g gs, e = .returned (.agg #[.int .i64 kd, .int .i64 sr, .int .i64 ds, .int .i64 bl, .int .i64 st, .bool n, .int .i64 p, .int .i64 q, .slice (some ⟨g1, 0, none⟩) xs.length xs.length, .slice (some ⟨g2, 0, none⟩) ys.length ys.length, .int .i64 v, .int .i64 k, .slice (some ⟨g, 0, none⟩) vs.length vs.length]) ∧ RunOwn w' w.heap.size g1 g2 xs ys ∧ g1 < g ∧ g2 < g ∧ CopyV w' g gs (bodies vs) ∧ RowV w' g vs.length ∧ Below w.heap.size w w' := by
  have H1 : Hid (Sl w a1 xs) := h1
  have H2 : Hid (Sl w a2 ys) := h2
  have H3 : Hid (SlV w a vs) := h
  have HL : Hid (VL0 vs) := hl
  clear h1 h2 h hl
  obtain ⟨W, hW⟩ : ∃ W, W = ((w.alloc (.cells #[.int .i64 kd, .int .i64 sr, .int .i64 ds, .int .i64 bl, .int .i64 st, .bool n, .int .i64 p, .int .i64 q, .slice a1 xs.length c1, .slice a2 ys.length c2, .int .i64 v, .int .i64 k, .slice a vs.length c] 50)).alloc (.cells #[.int .i64 0, .int .i64 0, .int .i64 0, .int .i64 0, .int .i64 0, .bool false, .int .i64 0, .int .i64 0, .slice none 0 0, .slice none 0 0, .int .i64 0, .int .i64 0, .slice none 0 0] 33)).alloc (.cells #[.int .i64 kd, .int .i64 sr, .int .i64 ds, .int .i64 bl, .int .i64 st, .bool false, .int .i64 0, .int .i64 0, .slice none 0 0, .slice none 0 0, .int .i64 0, .int .i64 0, .slice none 0 0] 33) := ⟨_, rfl⟩
  have BW : Hid (Below w.heap.size w W) := by
    show Below _ _ _
    rw [hW]; exact ((((Below.refl _ _).alloc (Nat.le_refl _) _).alloc (by simp) _).alloc (by simp; omega) _)
  have SW : Hid (W.heap.size = w.heap.size + 3) := by show _ = _; rw [hW]; simp
  have G0 : Hid (Blk W w.heap.size #[.int .i64 kd, .int .i64 sr, .int .i64 ds, .int .i64 bl, .int .i64 st, .bool n, .int .i64 p, .int .i64 q, .slice a1 xs.length c1, .slice a2 ys.length c2, .int .i64 v, .int .i64 k, .slice a vs.length c] 50) := by
    show Blk _ _ _ _; rw [hW]; exact ((Blk.new _ _ _).alloc _).alloc _
  have G1 : Hid (Blk W (w.heap.size + 1) #[.int .i64 0, .int .i64 0, .int .i64 0, .int .i64 0, .int .i64 0, .bool false, .int .i64 0, .int .i64 0, .slice none 0 0, .slice none 0 0, .int .i64 0, .int .i64 0, .slice none 0 0] 33) := by
    show Blk _ _ _ _; rw [hW]; exact (Blk.new2 _ _ _ _).alloc _
  have G2 : Hid (Blk W (w.heap.size + 1 + 1) #[.int .i64 kd, .int .i64 sr, .int .i64 ds, .int .i64 bl, .int .i64 st, .bool false, .int .i64 0, .int .i64 0, .slice none 0 0, .slice none 0 0, .int .i64 0, .int .i64 0, .slice none 0 0] 33) := by
    show Blk _ _ _ _; rw [hW]; exact Blk.new3 _ _ _ _ _
  have HW : Hid (W = _) := hW
  clear hW
  go_enter Tryz.func17, Tryz.ntmps17
  go_wp2_with fail
  rw [← HW.out]
  refine (toEntry n p q a1 a2 c1 c2 xs ys v k W (H1.out.below BW.out) (H2.out.below BW.out) hx hy).mono ?_
  rintro e w1 ⟨g1, g2, rfl, own, b1⟩
  have D0 : Hid (Blk w1 w.heap.size _ _) := G0.out.keep b1
  have D1 : Hid (Blk w1 (w.heap.size + 1) _ _) := G1.out.keep b1
  have D2 : Hid (Blk w1 (w.heap.size + 1 + 1) _ _) := G2.out.keep b1
  have B1 : Hid (Below w.heap.size w w1) := BW.out.trans (b1.mono BW.out.size)
  have S1 : Hid (w.heap.size + 3 ≤ w1.heap.size) := by have := SW.out; have := b1.size; show _ ≤ _; omega
  have O1 : Hid (RunOwn w1 (w.heap.size + 3) g1 g2 xs ys) := by have h := own; rw [SW.out] at h; exact h
  clear b1 own
  obtain ⟨q0, q1, q2, q3, q4, q5, q6, q7, q8, q9, q10, q11, q12⟩ := D0.out.cells13
  obtain ⟨r0, r1, r2, r3, r4, r5, r6, r7, r8, r9, r10, r11, r12⟩ := D2.out.cells13
  have ff := D2.out.frozen
  go_wp2_with fail
  obtain ⟨W2, hW2⟩ : ∃ W2, W2 = (((((((w1.setCell ⟨w.heap.size + 1 + 1, 5, none⟩ (.bool n)).setCell ⟨w.heap.size + 1 + 1, 6, none⟩ (.int .i64 p)).setCell ⟨w.heap.size + 1 + 1, 7, none⟩ (.int .i64 q)).setCell ⟨w.heap.size + 1 + 1, 8, none⟩ (.slice (some ⟨g1, 0, none⟩) xs.length xs.length)).setCell ⟨w.heap.size + 1 + 1, 9, none⟩ (.slice (some ⟨g2, 0, none⟩) ys.length ys.length)).setCell ⟨w.heap.size + 1 + 1, 10, none⟩ (.int .i64 v)).setCell ⟨w.heap.size + 1 + 1, 11, none⟩ (.int .i64 k)) := ⟨_, rfl⟩
  have E0 : Hid (Blk W2 w.heap.size #[.int .i64 kd, .int .i64 sr, .int .i64 ds, .int .i64 bl, .int .i64 st, .bool n, .int .i64 p, .int .i64 q, .slice a1 xs.length c1, .slice a2 ys.length c2, .int .i64 v, .int .i64 k, .slice a vs.length c] 50) := by show Blk _ _ _ _; rw [hW2]; exact (((((((D0.out.other (by omega) _ _).other (by omega) _ _).other (by omega) _ _).other (by omega) _ _).other (by omega) _ _).other (by omega) _ _).other (by omega) _ _)
  have E1 : Hid (Blk W2 (w.heap.size + 1) #[.int .i64 0, .int .i64 0, .int .i64 0, .int .i64 0, .int .i64 0, .bool false, .int .i64 0, .int .i64 0, .slice none 0 0, .slice none 0 0, .int .i64 0, .int .i64 0, .slice none 0 0] 33) := by show Blk _ _ _ _; rw [hW2]; exact (((((((D1.out.other (by omega) _ _).other (by omega) _ _).other (by omega) _ _).other (by omega) _ _).other (by omega) _ _).other (by omega) _ _).other (by omega) _ _)
  have E2 : Hid (Blk W2 (w.heap.size + 1 + 1) #[.int .i64 kd, .int .i64 sr, .int .i64 ds, .int .i64 bl, .int .i64 st, .bool n, .int .i64 p, .int .i64 q, .slice (some ⟨g1, 0, none⟩) xs.length xs.length, .slice (some ⟨g2, 0, none⟩) ys.length ys.length, .int .i64 v, .int .i64 k, .slice none 0 0] 33) := by show Blk _ _ _ _; rw [hW2]; exact (((((((D2.out.set _ _).set _ _).set _ _).set _ _).set _ _).set _ _).set _ _)
  have K2 : Hid (KeepFrom (w.heap.size + 3) w1 W2) := by
    show KeepFrom _ _ _
    rw [hW2]
    have S2 : ∀ {u : World} (o : Nat) (x : Value), KeepFrom (w.heap.size + 3) w1 u → KeepFrom (w.heap.size + 3) w1 (u.setCell ⟨w.heap.size + 1 + 1, o, none⟩ x) := fun o x h => h.setCell (by show w.heap.size + 1 + 1 < _; omega) x
    exact S2 _ _ (S2 _ _ (S2 _ _ (S2 _ _ (S2 _ _ (S2 _ _ (S2 _ _ (KeepFrom.refl _ _)))))))
  have B2 : Hid (Below w.heap.size w W2) := by
    show Below _ _ _
    rw [hW2]
    have s2 : w.heap.size ≤ w.heap.size + 1 + 1 := by omega
    exact ((((((B1.out.setCell s2 _).setCell s2 _).setCell s2 _).setCell s2 _).setCell s2 _).setCell s2 _).setCell s2 _
  have S2 : Hid (W2.heap.size = w1.heap.size) := K2.out.1
  have O2 : Hid (RunOwn W2 (w.heap.size + 3) g1 g2 xs ys) := O1.out.keep K2.out O1.out.1 O1.out.2.1
  have HW2 : Hid (W2 = _) := hW2
  rw [← HW2.out]
  clear hW2 q0 q1 q2 q3 q4 q5 q6 q7 q8 q9 q10 q11 q12 r0 r1 r2 r3 r4 r5 r6 r7 r8 r9 r10 r11 r12 ff
  obtain ⟨q0, q1, q2, q3, q4, q5, q6, q7, q8, q9, q10, q11, q12⟩ := E0.out.cells13
  go_wp2_with fail
  refine (toVoteS a c vs W2 (H3.out.below B2.out) hn HL.out).mono ?_
  rintro e w3 ⟨rfl, ⟨gs, own⟩, row, b3⟩
  have F1 : Hid (Blk w3 (w.heap.size + 1) _ _) := E1.out.keep b3
  have F2 : Hid (Blk w3 (w.heap.size + 1 + 1) _ _) := E2.out.keep b3
  have B3 : Hid (Below w.heap.size w w3) := B2.out.trans (b3.mono B2.out.size)
  have O3 : Hid (RunOwn w3 (w.heap.size + 3) g1 g2 xs ys) := O2.out.below b3
  have V3 : Hid (CopyV w3 W2.heap.size gs (bodies vs) ∧ RowV w3 W2.heap.size vs.length) := ⟨own, row⟩
  have N3 : Hid (w.heap.size + 3 ≤ W2.heap.size ∧ g1 < W2.heap.size ∧ g2 < W2.heap.size) := ⟨by have := S2.out; have := S1.out; omega, O2.out.2.2.2.1.1, O2.out.2.2.2.2.1.1⟩
  clear b3 own row q0 q1 q2 q3 q4 q5 q6 q7 q8 q9 q10 q11 q12
  obtain ⟨i0, i1, i2, i3, i4, i5, i6, i7, i8, i9, i10, i11, i12⟩ := F1.out.cells13
  obtain ⟨o0, o1, o2, o3, o4, o5, o6, o7, o8, o9, o10, o11, o12⟩ := F2.out.cells13
  have fo := F2.out.frozen
  have fi := F1.out.frozen
  go_wp2
  have KK : ∀ {u : World} (b o : Nat) (x : Value), b < w.heap.size + 3 → KeepFrom (w.heap.size + 3) w3 u → KeepFrom (w.heap.size + 3) w3 (u.setCell ⟨b, o, none⟩ x) := fun b o x hb h => h.setCell (by exact hb) x
  have t2 : w.heap.size + 1 + 1 < w.heap.size + 3 := by omega
  have t1 : w.heap.size + 1 < w.heap.size + 3 := by omega
  have KF : KeepFrom (w.heap.size + 3) w3 ((((((((((((((w3.setCell ⟨w.heap.size + 1 + 1, 12, none⟩ (.slice (some ⟨W2.heap.size, 0, none⟩) vs.length vs.length)).setCell ⟨w.heap.size + 1, 0, none⟩ (.int .i64 kd)).setCell ⟨w.heap.size + 1, 1, none⟩ (.int .i64 sr)).setCell ⟨w.heap.size + 1, 2, none⟩ (.int .i64 ds)).setCell ⟨w.heap.size + 1, 3, none⟩ (.int .i64 bl)).setCell ⟨w.heap.size + 1, 4, none⟩ (.int .i64 st)).setCell ⟨w.heap.size + 1, 5, none⟩ (.bool n)).setCell ⟨w.heap.size + 1, 6, none⟩ (.int .i64 p)).setCell ⟨w.heap.size + 1, 7, none⟩ (.int .i64 q)).setCell ⟨w.heap.size + 1, 8, none⟩ (.slice (some ⟨g1, 0, none⟩) xs.length xs.length)).setCell ⟨w.heap.size + 1, 9, none⟩ (.slice (some ⟨g2, 0, none⟩) ys.length ys.length)).setCell ⟨w.heap.size + 1, 10, none⟩ (.int .i64 v)).setCell ⟨w.heap.size + 1, 11, none⟩ (.int .i64 k)).setCell ⟨w.heap.size + 1, 12, none⟩ (.slice (some ⟨W2.heap.size, 0, none⟩) vs.length vs.length)) := (KK _ 12 _ t1 (KK _ 11 _ t1 (KK _ 10 _ t1 (KK _ 9 _ t1 (KK _ 8 _ t1 (KK _ 7 _ t1 (KK _ 6 _ t1 (KK _ 5 _ t1 (KK _ 4 _ t1 (KK _ 3 _ t1 (KK _ 2 _ t1 (KK _ 1 _ t1 (KK _ 0 _ t1 (KK _ 12 _ t2 (KeepFrom.refl _ _)))))))))))))))
  refine bodyPost_ret (v := .agg #[.int .i64 kd, .int .i64 sr, .int .i64 ds, .int .i64 bl, .int .i64 st, .bool n, .int .i64 p, .int .i64 q, .slice (some ⟨g1, 0, none⟩) xs.length xs.length, .slice (some ⟨g2, 0, none⟩) ys.length ys.length, .int .i64 v, .int .i64 k, .slice (some ⟨W2.heap.size, 0, none⟩) vs.length vs.length]) (by simp [results, Tryz.results17, go_sem, i0, i1, i2, i3, i4, i5, i6, i7, i8, i9, i10, i11, i12]) rfl ⟨g1, g2, W2.heap.size, gs, rfl, ?_, N3.out.2.1, N3.out.2.2, ?_, ?_, ?_⟩
  · have h := O3.out.keep KF O3.out.1 O3.out.2.1
    exact ⟨by have := h.1; omega, by have := h.2.1; omega, h.2.2⟩
  · exact V3.out.1.keep KF N3.out.1
  · exact V3.out.2.block (KF.2 _ N3.out.1)
  · have s2 : w.heap.size ≤ w.heap.size + 1 + 1 := by omega
    have s1 : w.heap.size ≤ w.heap.size + 1 := by omega
    exact ((((((((((((((B3.out.setCell s2 _).setCell s1 _).setCell s1 _).setCell s1 _).setCell s1 _).setCell s1 _).setCell s1 _).setCell s1 _).setCell s1 _).setCell s1 _).setCell s1 _).setCell s1 _).setCell s1 _).setCell s1 _)

set_option maxRecDepth 100000 in
set_option maxHeartbeats 1000000 in
theorem eqMsg (kd sr ds bl st : Int) (n : Bool) (p q : Int) (a1 a2 b1 b2 : Option Addr) (c1 c2 d1 d2 : Nat) (xs ys : List P2) (v k : Int) (a b : Option Addr) (c d : Nat) (vs us : List VM) (w : World) (h1 : Sl w a1 xs) (h2 : Sl w a2 ys) (h3 : Sl w b1 xs) (h4 : Sl w b2 ys) (hx : xs.length ≤ 2 ^ 40) (hy : ys.length ≤ 2 ^ 40) (h5 : SlV w a vs) (h6 : SlV w b us) (hb : bodies vs = bodies us) (hn : vs.length ≤ 2 ^ 40) (hl : VL0 vs) :
    Calls Tryz.prog 18 #[.agg #[.int .i64 kd, .int .i64 sr, .int .i64 ds, .int .i64 bl, .int .i64 st, .bool n, .int .i64 p, .int .i64 q, .slice a1 xs.length c1, .slice a2 ys.length c2, .int .i64 v, .int .i64 k, .slice a vs.length c], .agg #[.int .i64 kd, .int .i64 sr, .int .i64 ds, .int .i64 bl, .int .i64 st, .bool n, .int .i64 p, .int .i64 q, .slice b1 xs.length d1, .slice b2 ys.length d2, .int .i64 v, .int .i64 k, .slice b us.length d]] w fun e w' => e = .returned (.bool true) ∧ Below w.heap.size w w' := by
  have H1 : Hid (Sl w a1 xs) := h1
  have H2 : Hid (Sl w a2 ys) := h2
  have H3 : Hid (Sl w b1 xs) := h3
  have H4 : Hid (Sl w b2 ys) := h4
  have EV : Hid (∀ w', Below w.heap.size w w' → Calls Tryz.prog 52 #[.slice a vs.length c, .slice b us.length d] w' fun e w'' => e = .returned (.bool true) ∧ Below w'.heap.size w' w'') := fun w' hw => eqVoteS a b c d vs us w' (h5.below hw) (h6.below hw) hb hn hl
  clear h1 h2 h3 h4 h5 h6 hb hl
  obtain ⟨W, hW⟩ : ∃ W, W = (w.alloc (.cells #[.int .i64 kd, .int .i64 sr, .int .i64 ds, .int .i64 bl, .int .i64 st, .bool n, .int .i64 p, .int .i64 q, .slice a1 xs.length c1, .slice a2 ys.length c2, .int .i64 v, .int .i64 k, .slice a vs.length c] 33)).alloc (.cells #[.int .i64 kd, .int .i64 sr, .int .i64 ds, .int .i64 bl, .int .i64 st, .bool n, .int .i64 p, .int .i64 q, .slice b1 xs.length d1, .slice b2 ys.length d2, .int .i64 v, .int .i64 k, .slice b us.length d] 33) := ⟨_, rfl⟩
  have BW : Hid (Below w.heap.size w W) := by
    show Below _ _ _
    rw [hW]; exact ((Below.refl _ _).alloc (Nat.le_refl _) _).alloc (by simp) _
  have G0 : Hid (Blk W w.heap.size #[.int .i64 kd, .int .i64 sr, .int .i64 ds, .int .i64 bl, .int .i64 st, .bool n, .int .i64 p, .int .i64 q, .slice a1 xs.length c1, .slice a2 ys.length c2, .int .i64 v, .int .i64 k, .slice a vs.length c] 33) := by show Blk _ _ _ _; rw [hW]; exact (Blk.new _ _ _).alloc _
  have G1 : Hid (Blk W (w.heap.size + 1) #[.int .i64 kd, .int .i64 sr, .int .i64 ds, .int .i64 bl, .int .i64 st, .bool n, .int .i64 p, .int .i64 q, .slice b1 xs.length d1, .slice b2 ys.length d2, .int .i64 v, .int .i64 k, .slice b us.length d] 33) := by show Blk _ _ _ _; rw [hW]; exact Blk.new2 _ _ _ _
  have HW : Hid (W = _) := hW
  clear hW
  have e1 : (kd != kd) = false := by simp
  have e2 : (sr != sr) = false := by simp
  have e3 : (ds != ds) = false := by simp
  have e4 : (bl != bl) = false := by simp
  have e5 : (st != st) = false := by simp
  go_enter Tryz.func18, Tryz.ntmps18
  go_wp2_with fail
  rw [← HW.out]
  refine (eqEntry n p q a1 a2 b1 b2 c1 c2 d1 d2 xs ys v k W (H1.out.below BW.out) (H2.out.below BW.out) (H3.out.below BW.out) (H4.out.below BW.out) hx hy).mono ?_
  rintro e w1 ⟨rfl, b1'⟩
  have B1 : Hid (Below w.heap.size w w1) := BW.out.trans (b1'.mono BW.out.size)
  obtain ⟨q0, q1, q2, q3, q4, q5, q6, q7, q8, q9, q10, q11, q12⟩ := (G0.out.keep b1').cells13
  obtain ⟨r0, r1, r2, r3, r4, r5, r6, r7, r8, r9, r10, r11, r12⟩ := (G1.out.keep b1').cells13
  clear b1'
  go_wp2_with fail
  refine (EV.out w1 B1.out).mono ?_
  rintro e w2 ⟨rfl, b2'⟩
  have B2 : Hid (Below w.heap.size w w2) := B1.out.trans (b2'.mono B1.out.size)
  clear b2' q0 q1 q2 q3 q4 q5 q6 q7 q8 q9 q10 q11 q12 r0 r1 r2 r3 r4 r5 r6 r7 r8 r9 r10 r11 r12
  go_wp2_with fail
  go_ret
  exact ⟨rfl, B2.out⟩
end Go.Proofs.YtmcpefikmcaemaaGreatDoor.Own

namespace Go.Proofs.YtmcpefikmcaemaaGreatDoor.Own
open Go.RowKit
set_option linter.unusedVariables false

structure MM where
  kind : Int
  src : Int
  dst : Int
  bal : Int
  slot : Int
  b : EB
  a1 : Option Addr
  c1 : Nat
  a2 : Option Addr
  c2 : Nat
  a : Option Addr
  c : Nat
  vs : List VM
def MM.sz (x : MM) : Nat := x.b.xs.length + x.b.ys.length + (x.vs.length + sumV x.vs x.vs.length)
/-- It lies in memory, and can be read. -/
def AtM (w : World) (x : MM) : Prop := Sl w x.a1 x.b.xs ∧ Sl w x.a2 x.b.ys ∧ SlV w x.a x.vs
theorem AtM.below {w w' : World} {x : MM} (h : AtM w x) (hb : Below w.heap.size w w') : AtM w' x := ⟨h.1.below hb, h.2.1.below hb, h.2.2.below hb⟩
/-- It came in. -/
def InM (w : World) (x : MM) : Prop := AtM w x ∧ x.b.xs.length ≤ maxLen ∧ x.b.ys.length ≤ maxLen ∧ x.vs.length ≤ maxLen ∧ VM0 x.vs
theorem InM.below {w w' : World} {x : MM} (h : InM w x) (hb : Below w.heap.size w w') : InM w' x := ⟨h.1.below hb, h.2⟩
/-- Its lists are of a length that the walks take. -/
def FitM (x : MM) : Prop := x.b.xs.length ≤ 2 ^ 40 ∧ x.b.ys.length ≤ 2 ^ 40 ∧ x.b.xs.length ≤ x.c1 ∧ x.b.ys.length ≤ x.c2 ∧ x.vs.length ≤ 2 ^ 40 ∧ VLs x.vs
theorem MM.small {x : MM} (h : x.sz ≤ 1048576) : x.b.xs.length ≤ 2 ^ 40 ∧ x.b.ys.length ≤ 2 ^ 40 ∧ x.vs.length ≤ 2 ^ 40 ∧ VL0 x.vs := by
  unfold MM.sz at h
  exact ⟨by omega, by omega, by omega, VL0.ofSum (n := 1048576) (by omega) (by decide)⟩
abbrev GM := Nat × Nat × Nat × List (Nat × Nat)
/-- A copy of one's own. -/
def OwnM (w : World) (g : GM) (x : MM) : Prop := RunOwn w 0 g.1 g.2.1 x.b.xs x.b.ys ∧ CopyV w g.2.2.1 g.2.2.2 (bodies x.vs)
theorem OwnM.below {w w' : World} {g : GM} {x : MM} (h : OwnM w g x) (hb : Below w.heap.size w w') : OwnM w' g x := ⟨h.1.below hb, h.2.below hb⟩
/-- The copy, as a message that can be read. -/
def cpM (g : GM) (x : MM) : MM := { x with a1 := some ⟨g.1, 0, none⟩, c1 := x.b.xs.length, a2 := some ⟨g.2.1, 0, none⟩, c2 := x.b.ys.length, a := some ⟨g.2.2.1, 0, none⟩, c := x.vs.length, vs := vmsOf g.2.2.2 (bodies x.vs) }
theorem OwnM.at {w : World} {g : GM} {x : MM} (h : OwnM w g x) : AtM w (cpM g x) := ⟨.inr ⟨_, _, rfl, h.1.2.2.2.1⟩, .inr ⟨_, _, rfl, h.1.2.2.2.2.1⟩, h.2.sl⟩
theorem cpM_fit {x : MM} (h : x.sz ≤ 1048576) (g : GM) : FitM (cpM g x) := by
  obtain ⟨h1, h2, h3, h4⟩ := MM.small h
  exact ⟨h1, h2, Nat.le_refl _, Nat.le_refl _, by show (vmsOf _ _).length ≤ _; rw [vmsOf_len, bodies_len]; exact h3, vls_of h4 _⟩
theorem cpM_cells (x : MM) (g : GM) : (Value.agg #[.int .i64 (cpM g x).kind, .int .i64 (cpM g x).src, .int .i64 (cpM g x).dst, .int .i64 (cpM g x).bal, .int .i64 (cpM g x).slot, .bool (cpM g x).b.n, .int .i64 (cpM g x).b.p, .int .i64 (cpM g x).b.q, .slice (cpM g x).a1 (cpM g x).b.xs.length (cpM g x).c1, .slice (cpM g x).a2 (cpM g x).b.ys.length (cpM g x).c2, .int .i64 (cpM g x).b.v, .int .i64 (cpM g x).b.k, .slice (cpM g x).a (cpM g x).vs.length (cpM g x).c]) = .agg #[.int .i64 x.kind, .int .i64 x.src, .int .i64 x.dst, .int .i64 x.bal, .int .i64 x.slot, .bool x.b.n, .int .i64 x.b.p, .int .i64 x.b.q, .slice (some ⟨g.1, 0, none⟩) x.b.xs.length x.b.xs.length, .slice (some ⟨g.2.1, 0, none⟩) x.b.ys.length x.b.ys.length, .int .i64 x.b.v, .int .i64 x.b.k, .slice (some ⟨g.2.2.1, 0, none⟩) x.vs.length x.vs.length] := by
  simp only [cpM, vmsOf_len, bodies_len]

theorem szM (x : MM) (left : Int) (w : World) (h : InM w x) (h0 : 0 ≤ left) (h1 : left ≤ 2 ^ 60) :
    Calls Tryz.prog 16 #[.agg #[.int .i64 x.kind, .int .i64 x.src, .int .i64 x.dst, .int .i64 x.bal, .int .i64 x.slot, .bool x.b.n, .int .i64 x.b.p, .int .i64 x.b.q, .slice x.a1 x.b.xs.length x.c1, .slice x.a2 x.b.ys.length x.c2, .int .i64 x.b.v, .int .i64 x.b.k, .slice x.a x.vs.length x.c], .int .i64 left] w fun e w' => e = .returned (.int .i64 (if left < (x.sz : Nat) then -1 else left - (x.sz : Nat))) ∧ Below w.heap.size w w' :=
  szMsg x.kind x.src x.dst x.bal x.slot x.b.n x.b.p x.b.q x.a1 x.a2 x.c1 x.c2 x.b.xs x.b.ys x.b.v x.b.k x.a x.c x.vs left w h.2.1 h.2.2.1 h.1.2.2 h.2.2.2.1 h.2.2.2.2 h0 h1
theorem toM (x : MM) (w : World) (h : InM w x) (hs : x.sz ≤ 1048576) :
    Calls Tryz.prog 17 #[.agg #[.int .i64 x.kind, .int .i64 x.src, .int .i64 x.dst, .int .i64 x.bal, .int .i64 x.slot, .bool x.b.n, .int .i64 x.b.p, .int .i64 x.b.q, .slice x.a1 x.b.xs.length x.c1, .slice x.a2 x.b.ys.length x.c2, .int .i64 x.b.v, .int .i64 x.b.k, .slice x.a x.vs.length x.c]] w fun e w' => ∃ g : GM, e = .returned (.agg #[.int .i64 x.kind, .int .i64 x.src, .int .i64 x.dst, .int .i64 x.bal, .int .i64 x.slot, .bool x.b.n, .int .i64 x.b.p, .int .i64 x.b.q, .slice (some ⟨g.1, 0, none⟩) x.b.xs.length x.b.xs.length, .slice (some ⟨g.2.1, 0, none⟩) x.b.ys.length x.b.ys.length, .int .i64 x.b.v, .int .i64 x.b.k, .slice (some ⟨g.2.2.1, 0, none⟩) x.vs.length x.vs.length]) ∧ OwnM w' g x ∧ Below w.heap.size w w' := by
  refine (toMsg x.kind x.src x.dst x.bal x.slot x.b.n x.b.p x.b.q x.a1 x.a2 x.c1 x.c2 x.b.xs x.b.ys x.b.v x.b.k x.a x.c x.vs w h.1.1 h.1.2.1 (MM.small hs).1 (MM.small hs).2.1 h.1.2.2 (MM.small hs).2.2.1 (MM.small hs).2.2.2).mono ?_
  rintro e w' ⟨g1, g2, g, gs, rfl, ho, _, _, hc, _, hb⟩
  exact ⟨(g1, g2, g, gs), rfl, ⟨⟨Nat.zero_le _, Nat.zero_le _, ho.2.2⟩, hc⟩, hb⟩
theorem eqM (x : MM) (g g' : GM) (w : World) (h : OwnM w g x) (h' : OwnM w g' x) (hs : x.sz ≤ 1048576) :
    Calls Tryz.prog 18 #[.agg #[.int .i64 x.kind, .int .i64 x.src, .int .i64 x.dst, .int .i64 x.bal, .int .i64 x.slot, .bool x.b.n, .int .i64 x.b.p, .int .i64 x.b.q, .slice (some ⟨g.1, 0, none⟩) x.b.xs.length x.b.xs.length, .slice (some ⟨g.2.1, 0, none⟩) x.b.ys.length x.b.ys.length, .int .i64 x.b.v, .int .i64 x.b.k, .slice (some ⟨g.2.2.1, 0, none⟩) x.vs.length x.vs.length], .agg #[.int .i64 x.kind, .int .i64 x.src, .int .i64 x.dst, .int .i64 x.bal, .int .i64 x.slot, .bool x.b.n, .int .i64 x.b.p, .int .i64 x.b.q, .slice (some ⟨g'.1, 0, none⟩) x.b.xs.length x.b.xs.length, .slice (some ⟨g'.2.1, 0, none⟩) x.b.ys.length x.b.ys.length, .int .i64 x.b.v, .int .i64 x.b.k, .slice (some ⟨g'.2.2.1, 0, none⟩) x.vs.length x.vs.length]] w fun e w' => e = .returned (.bool true) ∧ Below w.heap.size w w' := by
  have h := eqMsg x.kind x.src x.dst x.bal x.slot x.b.n x.b.p x.b.q (some ⟨g.1, 0, none⟩) (some ⟨g.2.1, 0, none⟩) (some ⟨g'.1, 0, none⟩) (some ⟨g'.2.1, 0, none⟩) x.b.xs.length x.b.ys.length x.b.xs.length x.b.ys.length x.b.xs x.b.ys x.b.v x.b.k (some ⟨g.2.2.1, 0, none⟩) (some ⟨g'.2.2.1, 0, none⟩) x.vs.length x.vs.length (vmsOf g.2.2.2 (bodies x.vs)) (vmsOf g'.2.2.2 (bodies x.vs)) w
    h.at.1 h.at.2.1 h'.at.1 h'.at.2.1 (MM.small hs).1 (MM.small hs).2.1 h.at.2.2 h'.at.2.2 (by rw [vmsOf_bodies, vmsOf_bodies]) (by rw [vmsOf_len, bodies_len]; exact (MM.small hs).2.2.1) ((MM.small hs).2.2.2.vms g.2.2.2)
  rw [vmsOf_len, vmsOf_len, bodies_len] at h
  exact h
end Go.Proofs.YtmcpefikmcaemaaGreatDoor.Own
