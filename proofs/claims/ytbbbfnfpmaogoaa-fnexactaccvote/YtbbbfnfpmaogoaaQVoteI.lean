/-
  Own text, by program (gen_votei.py): what impl.AccVote does.
-/
import Derived.Test.YtbbbfnfpmaogoaaQVoteMath
import Derived.Test.YtbbbfnfpmaogoaaQListGrow2
import Derived.Test.YtbbbfnfpmaogoaaQOwnLPut
namespace Go.Proofs.Ytbbbfnfpmaogoaa.Own
open Go.RowKit
set_option linter.unusedVariables false
set_option linter.unusedSimpArgs false

theorem all4 (f : Nat → Bool) : (List.range 4).all f = (f 0 && (f 1 && (f 2 && f 3))) := by
  simp [List.range, List.range.loop]

set_option maxRecDepth 100000 in
set_option maxHeartbeats 1500000 in
theorem implVote (m : Int) (a : Option Addr) (c : Nat) (vs : List VM) (bal slot : Int) (n : Bool) (p q : Int) (a1 a2 : Option Addr) (c1 c2 : Nat) (xs ys : List P2) (v k : Int) (w : World) (h1 : SlV w a vs) (l1 : VLs vs) (nn : vs.length ≤ 2 ^ 29) (s1 : Sl w a1 xs) (s2 : Sl w a2 ys) (n1 : xs.length ≤ 2 ^ 40) (n2 : ys.length ≤ 2 ^ 40) :
    Calls Try.prog 31 #[.agg #[.int .i64 m, .slice a vs.length c], .int .i64 bal, .int .i64 slot, .agg #[.bool n, .int .i64 p, .int .i64 q, .slice a1 xs.length c1, .slice a2 ys.length c2, .int .i64 v, .int .i64 k]] w fun e w' => ∃ lv us, e = .returned (.tuple #[.agg #[.int .i64 (voM m bal slot ⟨n, p, q, xs, ys, v, k⟩ (bodies vs)), lv], .bool (voO m bal slot ⟨n, p, q, xs, ys, v, k⟩ (bodies vs))]) ∧ OwnR w' w.heap.size w'.heap.size lv us ∧ bodies us = voB m bal slot ⟨n, p, q, xs, ys, v, k⟩ (bodies vs) ∧ Below w.heap.size w w' := by
  obtain ⟨BD, hBD⟩ : ∃ BD : Array Value, BD = #[.int .i64 m, .slice a vs.length c, .int .i64 bal, .int .i64 slot, .bool n, .int .i64 p, .int .i64 q, .slice a1 xs.length c1, .slice a2 ys.length c2, .int .i64 v, .int .i64 k] := ⟨_, rfl⟩
  have HBD : Hid (BD = _) := hBD
  obtain ⟨W, hW⟩ : ∃ W, W = ((w.alloc (.cells #[.int .i64 m, .slice a vs.length c] 24)).alloc (.cells #[.bool n, .int .i64 p, .int .i64 q, .slice a1 xs.length c1, .slice a2 ys.length c2, .int .i64 v, .int .i64 k] 34)).alloc (.cells #[.int .i64 0, .slice none 0 0] 24) := ⟨_, rfl⟩
  have BW : Below w.heap.size w W := by rw [hW]; exact (((Below.refl _ _).alloc (Nat.le_refl _) _).alloc (by simp) _).alloc (by rw [size_new, size_new]; omega) _
  have PW : Hid (Blk W w.heap.size #[.int .i64 m, .slice a vs.length c] 24) := by show Blk _ _ _ _; rw [hW]; exact ((Blk.new _ _ _).alloc _).alloc _
  have EW : Hid (Blk W (w.heap.size + 1) #[.bool n, .int .i64 p, .int .i64 q, .slice a1 xs.length c1, .slice a2 ys.length c2, .int .i64 v, .int .i64 k] 34) := by show Blk _ _ _ _; rw [hW]; exact (Blk.new2 _ _ _ _).alloc _
  have ZW : Hid (Blk W (w.heap.size + 2) #[.int .i64 0, .slice none 0 0] 24) := by show Blk _ _ _ _; rw [hW]; exact Blk.new3 _ _ _ _ _
  have SW : W.heap.size = w.heap.size + 3 := by rw [hW]; simp
  obtain ⟨Y, hY⟩ : ∃ Y, Y = W.alloc (.cells BD 108) := ⟨_, rfl⟩
  have BY : Below W.heap.size W Y := by rw [hY]; exact (Below.refl _ _).alloc (Nat.le_refl _) _
  have DY : Hid (Blk Y W.heap.size BD 108) := by show Blk _ _ _ _; rw [hY]; exact Blk.new _ _ _
  have SY : Y.heap.size = w.heap.size + 4 := by rw [hY]; simp [SW]
  obtain ⟨X, hX⟩ : ∃ X, X = Y.alloc (.cells #[.func (.func 73) #[.agg BD] #[], .func (.func 74) #[.agg BD] #[], .func (.func 79) #[.agg BD] #[], .func (.func 80) #[.agg BD] #[]] 110) := ⟨_, rfl⟩
  have BX : Below Y.heap.size Y X := by rw [hX]; exact (Below.refl _ _).alloc (Nat.le_refl _) _
  have RX : Blk X Y.heap.size #[.func (.func 73) #[.agg BD] #[], .func (.func 74) #[.agg BD] #[], .func (.func 79) #[.agg BD] #[], .func (.func 80) #[.agg BD] #[]] 110 := by rw [hX]; exact Blk.new _ _ _
  have KX : Below w.heap.size w X := (BW.trans (BY.mono (by omega))).trans (BX.mono (by omega))
  have CK : castOk m bal slot ⟨n, p, q, xs, ys, v, k⟩ = (isBal bal && (decide (m ≤ bal) && ((decide (0 ≤ slot) && decide (slot < 40)) && entOk n p q xs ys v k))) := by
    unfold castOk promOk
    rw [Bool.and_assoc]
    rfl
  have AE : ((List.range 4).all fun i => [isBal bal, decide (m ≤ bal), (decide (0 ≤ slot) && decide (slot < 40)), entOk n p q xs ys v k].getD i false) = castOk m bal slot ⟨n, p, q, xs, ys, v, k⟩ := by
    rw [all4, CK]
    rfl
  have CB : Hid (Calls Try.prog 72 #[.agg BD, .slice (some ⟨Y.heap.size, 0, none⟩) 4 4] X fun e w' => BidPost m bal (bodies vs) (accOk m (bodies vs)) (castOk m bal slot ⟨n, p, q, xs, ys, v, k⟩) X e w') := by
    show Calls _ _ _ _ _
    have h := bidPromise m a c vs bal slot n p q a1 a2 c1 c2 xs ys v k X [73, 74, 79, 80] [isBal bal, decide (m ≤ bal), (decide (0 ≤ slot) && decide (slot < 40)), entOk n p q xs ys v k] Y.heap.size 4 (h1.below KX) l1 (by omega) RX.lt (by decide)
      (fun i hi => by
        match i, hi with
        | 0, _ => exact .inl rfl
        | 1, _ => exact .inr (.inl rfl)
        | 2, _ => exact .inr (.inr (.inl rfl))
        | 3, _ => exact .inr (.inr (.inr rfl)))
      (fun i hi => by
        match i, hi with
        | 0, _ => rw [RX.cell, hBD]; rfl
        | 1, _ => rw [RX.cell, hBD]; rfl
        | 2, _ => rw [RX.cell, hBD]; rfl
        | 3, _ => rw [RX.cell, hBD]; rfl)
      (fun i hi V hV => by
        match i, hi with
        | 0, _ => exact bidInBallot m a c vs bal slot n p q a1 a2 c1 c2 xs ys v k V
        | 1, _ => exact bidKeeps m a c vs bal slot n p q a1 a2 c1 c2 xs ys v k V
        | 2, _ => exact bidPlace m a c vs bal slot n p q a1 a2 c1 c2 xs ys v k V
        | 3, _ => exact bidEntry m a c vs bal slot n p q a1 a2 c1 c2 xs ys v k V ((s1.below KX).below hV) ((s2.below KX).below hV) n1 n2)
    rw [show ([73, 74, 79, 80] : List Nat).length = 4 from rfl, AE] at h
    rw [hBD]
    exact h
  have H3 : Hid (Y.heap.size = w.heap.size + 4 ∧ X.heap.size = w.heap.size + 5) := ⟨SY, by rw [hX]; simp [SY]⟩
  have HK : Hid (Below w.heap.size w X) := KX
  have ZX : Hid (Blk X (w.heap.size + 2) #[.int .i64 0, .slice none 0 0] 24) := (ZW.out.keep BY).keep BX
  have EX : Hid (Blk X (w.heap.size + 1) #[.bool n, .int .i64 p, .int .i64 q, .slice a1 xs.length c1, .slice a2 ys.length c2, .int .i64 v, .int .i64 k] 34) := (EW.out.keep BY).keep BX
  have HW : Hid (W = _) := hW
  have HY : Hid (Y = _) := hY
  have HX : Hid (X = _) := hX
  have SL : Hid (Sl X a1 xs ∧ Sl X a2 ys) := ⟨s1.below KX, s2.below KX⟩
  have PL : Hid (castOk m bal slot ⟨n, p, q, xs, ys, v, k⟩ = true → 0 ≤ slot ∧ slot < 40) := castOk_place
  have E1 : Hid (voM m bal slot ⟨n, p, q, xs, ys, v, k⟩ (bodies vs) = if accOk m (bodies vs) then (if castOk m bal slot ⟨n, p, q, xs, ys, v, k⟩ then bal else m) else 0) := rfl
  have E2 : Hid (voB m bal slot ⟨n, p, q, xs, ys, v, k⟩ (bodies vs) = if accOk m (bodies vs) then (if castOk m bal slot ⟨n, p, q, xs, ys, v, k⟩ then castB (bodies vs) slot.toNat (bal, ⟨n, p, q, xs, ys, v, k⟩) else bodies vs) else []) := rfl
  have E3 : Hid (voO m bal slot ⟨n, p, q, xs, ys, v, k⟩ (bodies vs) = (accOk m (bodies vs) && castOk m bal slot ⟨n, p, q, xs, ys, v, k⟩)) := rfl
  generalize voM m bal slot ⟨n, p, q, xs, ys, v, k⟩ (bodies vs) = M at E1 ⊢
  generalize voB m bal slot ⟨n, p, q, xs, ys, v, k⟩ (bodies vs) = BB at E2 ⊢
  generalize voO m bal slot ⟨n, p, q, xs, ys, v, k⟩ (bodies vs) = OO at E3 ⊢
  clear CK AE
  generalize castOk m bal slot ⟨n, p, q, xs, ys, v, k⟩ = A at CB E1 E2 E3 PL
  generalize accOk m (bodies vs) = K at CB E1 E2 E3
  obtain ⟨p0, p1⟩ := PW.out.cells2
  obtain ⟨b0, b1, b2, b3, b4, b5, b6⟩ := EW.out.cells7
  clear h1 l1 BW SW BY SY BX RX KX hW hY hX s1 s2
  go_enter Try.func31, Try.ntmps31
  go_upto_region 1 with fail
  rw [← HW.out]
  go_upto_region 2 with fail
  rw [← HBD.out, ← HY.out]
  have hmf : ∀ (fn : Fn) (first cap : Array Value) (w : World), (Instr.makeFunc fn first cap).run Try.prog w = .ok (.func fn first cap) w := fun _ _ _ _ => rfl
  have d0 : Y.cell? ⟨W.heap.size, 0, none⟩ = some (.int .i64 m) := by rw [DY.out.cell, HBD.out]; rfl
  have d1 : Y.cell? ⟨W.heap.size, 1, none⟩ = some (.slice a vs.length c) := by rw [DY.out.cell, HBD.out]; rfl
  have d2 : Y.cell? ⟨W.heap.size, 2, none⟩ = some (.int .i64 bal) := by rw [DY.out.cell, HBD.out]; rfl
  have d3 : Y.cell? ⟨W.heap.size, 3, none⟩ = some (.int .i64 slot) := by rw [DY.out.cell, HBD.out]; rfl
  have d4 : Y.cell? ⟨W.heap.size, 4, none⟩ = some (.bool n) := by rw [DY.out.cell, HBD.out]; rfl
  have d5 : Y.cell? ⟨W.heap.size, 5, none⟩ = some (.int .i64 p) := by rw [DY.out.cell, HBD.out]; rfl
  have d6 : Y.cell? ⟨W.heap.size, 6, none⟩ = some (.int .i64 q) := by rw [DY.out.cell, HBD.out]; rfl
  have d7 : Y.cell? ⟨W.heap.size, 7, none⟩ = some (.slice a1 xs.length c1) := by rw [DY.out.cell, HBD.out]; rfl
  have d8 : Y.cell? ⟨W.heap.size, 8, none⟩ = some (.slice a2 ys.length c2) := by rw [DY.out.cell, HBD.out]; rfl
  have d9 : Y.cell? ⟨W.heap.size, 9, none⟩ = some (.int .i64 v) := by rw [DY.out.cell, HBD.out]; rfl
  have d10 : Y.cell? ⟨W.heap.size, 10, none⟩ = some (.int .i64 k) := by rw [DY.out.cell, HBD.out]; rfl
  clear hBD p0 p1 b0 b1 b2 b3 b4 b5 b6
  go_wp2_with fail
  rw [← HBD.out, ← HX.out]
  refine Calls.mono CB.out ?_
  rintro e w2 ⟨lv, us, rfl, o2, e2, b2⟩
  obtain ⟨la, lc, rfl⟩ := o2.form
  have O2 : Hid (OwnL w2 X.heap.size (.slice la us.length lc) us) := o2
  have U2 : Hid (bodies us = if K then bodies vs else []) := e2
  have B2 : Hid (Below X.heap.size X w2) := b2
  have UL : Hid (us.length ≤ 2 ^ 29) := by
    show _ ≤ _
    have := congrArg List.length e2
    rw [bodies_len] at this
    rw [this]
    split
    · rw [bodies_len]; exact nn
    · simp
  have M2 : Hid (M = if K then if A then bal else m else 0) := E1.out
  clear o2 e2 b2 d0 d1 d2 d3 d4 d5 d6 d7 d8 d9 d10 hmf
  generalize (if K then if A then bal else m else 0) = PT at M2 ⊢
  obtain ⟨PO, hPO⟩ : ∃ PO, PO = (K && A) := ⟨_, rfl⟩
  rw [← hPO]
  have O3 : Hid (OO = PO) := by show _ = _; rw [hPO]; exact E3.out
  have HPO : Hid (PO = (K && A)) := hPO
  clear hPO
  go_upto_region 3 with fail
  obtain ⟨C, hC⟩ : ∃ C, C = w2.heap.size := ⟨_, rfl⟩
  rw [← hC]
  obtain ⟨D, hD⟩ : ∃ D, D = w2.alloc (.cells #[.int .i64 PT, .slice la us.length lc] 24) := ⟨_, rfl⟩
  rw [← hD]
  have BD2 : Hid (Below w2.heap.size w2 D) := by show Below _ _ _; rw [hD]; exact (Below.refl _ _).alloc (Nat.le_refl _) _
  have CD : Hid (Blk D C #[.int .i64 PT, .slice la us.length lc] 24) := by show Blk _ _ _ _; rw [hD, hC]; exact Blk.new _ _ _
  have OD : Hid (OwnL D X.heap.size (.slice la us.length lc) us) := O2.out.keep BD2.out
  have XD : Hid (Below X.heap.size X D) := B2.out.trans (BD2.out.mono B2.out.size)
  have KD : Hid (Below w.heap.size w D) := HK.out.trans (XD.out.mono HK.out.size)
  have ZD : Hid (Blk D (w.heap.size + 2) #[.int .i64 0, .slice none 0 0] 24) := ZX.out.keep XD.out
  have ED : Hid (Blk D (w.heap.size + 1) #[.bool n, .int .i64 p, .int .i64 q, .slice a1 xs.length c1, .slice a2 ys.length c2, .int .i64 v, .int .i64 k] 34) := EX.out.keep XD.out
  have SD : Hid (X.heap.size ≤ C ∧ D.heap.size = C + 1) := ⟨by have := B2.out.size; omega, by rw [hD, hC]; simp⟩
  have HCC : Hid (C = w2.heap.size) := hC
  have BLKN : Hid (∀ i, i < us.length → ∀ b, (blk1 (us.getD i v0) = some b ∨ blk2 (us.getD i v0) = some b) → b < C) := fun i hi b e => by
    rw [hC]
    rcases e with e | e
    · exact ((O2.out.one i hi).b1 b e).2
    · exact ((O2.out.one i hi).b2 b e).2
  have ROW0 : Hid (∀ g, (Value.slice la us.length lc).ownBlock = some g → g < C) := fun g e => by rw [hC]; exact ownsRow_lt8 O2.out.row g e
  clear hD hC
  cases PO with
  | false =>
    obtain ⟨m0, m1⟩ := CD.out.cells2
    obtain ⟨z0, z1⟩ := ZD.out.cells2
    have fz := ZD.out.frozen
    have sd := SD.out
    have s3 := H3.out
    go_wp2_with fail
    have zb := (((ZD.out.set 0 (.int .i64 PT)).set 1 (.slice la us.length lc)).eq (C' := #[.int .i64 PT, .slice la us.length lc]) (by simp)).cells2
    obtain ⟨y0, y1⟩ := zb
    refine bodyPost_ret (v := .tuple #[.agg #[.int .i64 PT, .slice la us.length lc], .bool false]) (by simp [results, Try.results31, go_sem, y0, y1]) rfl ?_
    have on : Only (w.heap.size + 2) D ((D.setCell ⟨w.heap.size + 2, 0, none⟩ (.int .i64 PT)).setCell ⟨w.heap.size + 2, 1, none⟩ (.slice la us.length lc)) := ((Only.refl _ _).setCell _).setCell _
    refine ⟨_, us, by rw [M2.out, O3.out], OwnR.ofL ((OD.out.high (Nat.le_of_eq on.size.symm) fun b hb => on.block b (by omega)).low (by omega)), ?_, KD.out.trans (on.below (by omega))⟩
    rw [U2.out, E2.out]
    have := HPO.out
    revert this
    cases K <;> cases A <;> simp
  | true =>
    have KA : Hid (K = true ∧ A = true) := by
      have := HPO.out
      show _ ∧ _
      revert this
      cases K <;> cases A <;> simp
    have PLC := PL.out KA.out.2
    obtain ⟨s, rfl⟩ := Int.eq_ofNat_of_zero_le PLC.1
    have hs40 : s < 40 := by omega
    have BV2 : Hid (BB = castB (bodies vs) s (bal, ⟨n, p, q, xs, ys, v, k⟩)) := by
      show _ = _
      rw [E2.out, KA.out.1, KA.out.2]
      rfl
    have UV : Hid (bodies us = bodies vs) := by show _ = _; rw [U2.out, KA.out.1]; rfl
    clear PLC PL E2 U2 HPO
    obtain ⟨m0, m1⟩ := CD.out.cells2
    go_wp2_with fail
    refine (listGrownB (.slice la us.length lc) us (s + 1) D X.heap.size OD.out (by have := SD.out; omega) (by have := UL.out; omega) (by omega)).mono ?_
    rintro e w4 ⟨v4, rfl, o4, b4, a4⟩
    obtain ⟨U, hU⟩ : ∃ U, U = padV us (s + 1 - us.length) := ⟨_, rfl⟩
    rw [← hU] at o4
    have UN : s < U.length := by rw [hU, padV_len]; omega
    have UB : Hid (bodies U = bodies vs ++ List.replicate (s + 1 - (bodies vs).length) (0, e0)) := by show _ = _; rw [hU, bodies_pad, UV.out, ← UV.out, bodies_len]
    have NU : Hid (∀ b, C ≤ b → ∀ i, blk1 (U.getD i v0) ≠ some b ∧ blk2 (U.getD i v0) ≠ some b) := fun b hb i => by
      rw [hU, padV_getD]
      by_cases hi : i < us.length
      · exact ⟨fun e => by have := BLKN.out i hi b (.inl e); omega, fun e => by have := BLKN.out i hi b (.inr e); omega⟩
      · rw [getD_past (Nat.le_of_not_lt hi)]
        exact ⟨fun e => (by simp [blk1, blkOf, v0, e0] at e), fun e => (by simp [blk2, blkOf, v0, e0] at e)⟩
    clear hU
    have hne : U ≠ [] := fun e => by rw [e] at UN; simp at UN
    obtain ⟨g, cap4, rfl, _, ov, _⟩ := o4.vs hne
    have sd := SD.out
    have s3 := H3.out
    have kx := HK.out.size
    have G4 : Hid (X.heap.size ≤ g ∧ g ≠ C) := by
      show _ ∧ _
      refine ⟨ov.lo, fun e => ?_⟩
      rcases a4 with ar | ar
      · have := ROW0.out g (by rw [← ar]; rfl); omega
      · have := ar g rfl; omega
    have O4 : Hid (OwnL w4 X.heap.size (.slice (some ⟨g, 0, none⟩) U.length cap4) U) := o4
    have OV4 : Hid (OwnVs w4 X.heap.size g U) := ov
    have R0 : ∀ b, b < X.heap.size → (Value.slice la us.length lc).ownBlock ≠ some b := fun b hb e => by have := OD.out.from b e; omega
    have NC0 : (Value.slice la us.length lc).ownBlock ≠ some C := fun e => by have := ROW0.out C e; omega
    have C4 : Hid (Blk w4 C #[.int .i64 PT, .slice la us.length lc] 24) := CD.out.but1 b4 NC0
    have Z4 : Hid (Blk w4 (w.heap.size + 2) #[.int .i64 0, .slice none 0 0] 24) := ZD.out.but1 b4 (R0 _ (by omega))
    have E4 : Hid (Blk w4 (w.heap.size + 1) #[.bool n, .int .i64 p, .int .i64 q, .slice a1 xs.length c1, .slice a2 ys.length c2, .int .i64 v, .int .i64 k] 34) := ED.out.but1 b4 (R0 _ (by omega))
    have X4 : Hid (Below X.heap.size X w4) := XD.out.trans (b4.below (by omega) (fun g' e => OD.out.from g' e))
    have K4 : Hid (Below w.heap.size w w4) := HK.out.trans (X4.out.mono kx)
    have SZ4 : Hid (C + 1 ≤ w4.heap.size) := by show _ ≤ _; have := b4.size; omega
    clear o4 b4 a4 ov R0 NC0 m0 m1
    have SLX := SL.out
    obtain ⟨f0, f1, f2, f3, f4, f5, f6⟩ := E4.out.cells7
    have hsU : (s : Int) < (U.length : Int) := by omega
    have VC : Hid _ := voteCopied ⟨bal, ⟨n, p, q, xs, ys, v, k⟩, a1, c1, a2, c2⟩ w4 (SLX.1.below X4.out) (SLX.2.below X4.out) n1 n2
    simp only [VM.cells] at VC
    clear SLX
    go_wp2_with fail
    refine Calls.mono VC.out ?_
    rintro e w5 ⟨y, rfl, hyb, hy, b5⟩
    have YB : Hid (y.body = (bal, ⟨n, p, q, xs, ys, v, k⟩)) := hyb
    have Y5 : Hid (OneOwn w5 w4.heap.size y) := hy
    have B5 : Hid (Below w4.heap.size w4 w5) := b5
    have hgb := OV4.out.lt
    obtain ⟨k0, k1, k2, k3, k4, k5, k6, k7⟩ : C8 w5 g (s * 8) (U.getD s v0) := (OV4.out.cell s UN).congr fun l hl => b5.cell (p := ⟨g, s * 8 + l, none⟩) hgb
    have fr : ∀ o, w5.frozen? ⟨g, o, none⟩ = false := fun o => by rw [b5.frozen (p := ⟨g, o, none⟩) hgb]; exact OV4.out.fr o
    have PUT : Hid (OwnL (set8 w5 g (s * 8) y) X.heap.size (.slice (some ⟨g, 0, none⟩) U.length cap4) (U.set s y)) := O4.out.put b5 hy (by have := X4.out.size; omega) s UN rfl
    have KEEP : ∀ b, b < w4.heap.size → b ≠ g → (set8 w5 g (s * 8) y).heap[b]? = w4.heap[b]? := fun b hb hn => by rw [set8_keep _ _ _ _ _ hn]; exact b5.block b hb
    have C5 : Hid (Blk (set8 w5 g (s * 8) y) C #[.int .i64 PT, .slice la us.length lc] 24) := by
      show Blk _ _ _ _
      unfold Blk
      rw [KEEP C C4.out.lt (fun e => G4.out.2 e.symm)]; exact C4.out
    have Z5 : Hid (Blk (set8 w5 g (s * 8) y) (w.heap.size + 2) #[.int .i64 0, .slice none 0 0] 24) := by
      show Blk _ _ _ _
      unfold Blk
      rw [KEEP _ Z4.out.lt (by have := G4.out; omega)]; exact Z4.out
    have K5 : Hid (Below w.heap.size w (set8 w5 g (s * 8) y)) := set8_below (K4.out.trans (b5.mono K4.out.size)) (by have := G4.out; omega) _ _
    have NUS : Hid (∀ b, C ≤ b → b < w4.heap.size → ∀ i, i < (U.set s y).length → blk1 ((U.set s y).getD i v0) ≠ some b ∧ blk2 ((U.set s y).getD i v0) ≠ some b) := fun b hb hb2 i hi => by
      rw [getD_setV _ _ _ _ UN]
      by_cases e : s = i
      · rw [if_pos e]
        exact ⟨fun e => by have := (Y5.out.b1 _ e).1; omega, fun e => by have := (Y5.out.b2 _ e).1; omega⟩
      · rw [if_neg e]; exact NU.out b hb i
    have ZN : Hid (∀ i, i < (U.set s y).length → blk1 ((U.set s y).getD i v0) ≠ some (w.heap.size + 2) ∧ blk2 ((U.set s y).getD i v0) ≠ some (w.heap.size + 2)) := fun i hi => by
      have o := PUT.out.one i hi
      exact ⟨fun e => by have := (o.b1 _ e).1; omega, fun e => by have := (o.b2 _ e).1; omega⟩
    simp only [VM.cells]
    clear hyb hy b5 KEEP f0 f1 f2 f3 f4 f5 f6 VC
    go_upto_region 6 with fail
    obtain ⟨G, hG⟩ : ∃ G, G = set8 w5 g (s * 8) y := ⟨_, rfl⟩
    rw [← hG] at PUT C5 Z5 K5
    show Code.wp _ _ _ _ (set8 w5 g (s * 8) y)
    rw [← hG]
    clear hG k0 k1 k2 k3 k4 k5 k6 k7 fr
    obtain ⟨m0, m1⟩ := C5.out.cells2
    have fc := C5.out.frozen
    go_upto_region 7 with fail
    obtain ⟨H, hH⟩ : ∃ H, H = G.setCell ⟨C, 1, none⟩ (.slice (some ⟨g, 0, none⟩) U.length cap4) := ⟨_, rfl⟩
    rw [← hH]
    have CH : Hid (Blk H C #[.int .i64 PT, .slice (some ⟨g, 0, none⟩) U.length cap4] 24) := by show Blk _ _ _ _; rw [hH]; exact (C5.out.set 1 _).eq (by simp)
    have on1 : Only C G H := by rw [hH]; exact (Only.refl _ _).setCell _
    have ZH : Hid (Blk H (w.heap.size + 2) #[.int .i64 0, .slice none 0 0] 24) := by show Blk _ _ _ _; rw [hH]; exact Z5.out.other (by omega) _ _
    have OH : Hid (OwnL H X.heap.size (.slice (some ⟨g, 0, none⟩) U.length cap4) (U.set s y)) := PUT.out.onlyOut on1 ⟨fun e => G4.out.2 (by injection e), NUS.out C (Nat.le_refl _) (by have := SZ4.out; omega)⟩
    have KH : Hid (Below w.heap.size w H) := K5.out.trans (on1.below (by omega))
    clear hH on1 m0 m1 fc
    obtain ⟨m0, m1⟩ := CH.out.cells2
    obtain ⟨z0, z1⟩ := ZH.out.cells2
    have fz := ZH.out.frozen
    go_wp2_with fail
    have zb := (((ZH.out.set 0 (.int .i64 PT)).set 1 (.slice (some ⟨g, 0, none⟩) U.length cap4)).eq (C' := #[.int .i64 PT, .slice (some ⟨g, 0, none⟩) U.length cap4]) (by simp)).cells2
    obtain ⟨y0, y1⟩ := zb
    refine bodyPost_ret (v := .tuple #[.agg #[.int .i64 PT, .slice (some ⟨g, 0, none⟩) U.length cap4], .bool true]) (by simp [results, Try.results31, go_sem, y0, y1]) rfl ?_
    have on : Only (w.heap.size + 2) H ((H.setCell ⟨w.heap.size + 2, 0, none⟩ (.int .i64 PT)).setCell ⟨w.heap.size + 2, 1, none⟩ (.slice (some ⟨g, 0, none⟩) U.length cap4)) := ((Only.refl _ _).setCell _).setCell _
    refine ⟨_, U.set s y, by rw [M2.out, O3.out], OwnR.ofL ((OH.out.high (Nat.le_of_eq on.size.symm) fun b hb => on.block b (by omega)).low (by omega)), ?_, KH.out.trans (on.below (by omega))⟩
    rw [bodies_set, YB.out, UB.out, BV2.out]
    rfl
end Go.Proofs.Ytbbbfnfpmaogoaa.Own
