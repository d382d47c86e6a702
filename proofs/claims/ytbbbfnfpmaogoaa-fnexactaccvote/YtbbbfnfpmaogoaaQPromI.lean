/-
  Own text: what impl.AccPromise does.
-/
import Derived.Test.YtbbbfnfpmaogoaaQBidI
import Derived.Test.YtbbbfnfpmaogoaaQPromS
namespace Go.Proofs.Ytbbbfnfpmaogoaa.Own
open Go.RowKit
set_option linter.unusedVariables false
set_option linter.unusedSimpArgs false

set_option maxRecDepth 100000 in
set_option maxHeartbeats 1000000 in
theorem implPromise (m : Int) (a : Option Addr) (c : Nat) (vs : List VM) (bal : Int) (w : World) (h1 : SlV w a vs) (l1 : VLs vs) (n1 : vs.length ≤ 2 ^ 30) :
    Calls Try.prog 25 #[.agg #[.int .i64 m, .slice a vs.length c], .int .i64 bal] w fun e w' => ∃ lv us, e = .returned (.tuple #[.agg #[.int .i64 (prM m bal (bodies vs)), lv], .bool (prO m bal (bodies vs))]) ∧ OwnR w' w.heap.size w'.heap.size lv us ∧ bodies us = prB m (bodies vs) ∧ Below w.heap.size w w' := by
  obtain ⟨BD, hBD⟩ : ∃ BD : Array Value, BD = #[.int .i64 m, .slice a vs.length c, .int .i64 bal, .int .i64 0, .bool false, .int .i64 0, .int .i64 0, .slice none 0 0, .slice none 0 0, .int .i64 0, .int .i64 0] := ⟨_, rfl⟩
  have HBD : Hid (BD = _) := hBD
  obtain ⟨W, hW⟩ : ∃ W, W = (w.alloc (.cells #[.int .i64 m, .slice a vs.length c] 24)).alloc (.cells #[.int .i64 0, .slice none 0 0] 24) := ⟨_, rfl⟩
  have BW : Below w.heap.size w W := by rw [hW]; exact ((Below.refl _ _).alloc (Nat.le_refl _) _).alloc (by simp) _
  have PW : Hid (Blk W w.heap.size #[.int .i64 m, .slice a vs.length c] 24) := by show Blk _ _ _ _; rw [hW]; exact (Blk.new _ _ _).alloc _
  have ZW : Hid (Blk W (w.heap.size + 1) #[.int .i64 0, .slice none 0 0] 24) := by show Blk _ _ _ _; rw [hW]; exact Blk.new2 _ _ _ _
  have SW : W.heap.size = w.heap.size + 2 := by rw [hW]; simp
  obtain ⟨Y, hY⟩ : ∃ Y, Y = W.alloc (.cells BD 108) := ⟨_, rfl⟩
  have BY : Below W.heap.size W Y := by rw [hY]; exact (Below.refl _ _).alloc (Nat.le_refl _) _
  have DY : Hid (Blk Y W.heap.size BD 108) := by show Blk _ _ _ _; rw [hY]; exact Blk.new _ _ _
  have SY : Y.heap.size = w.heap.size + 3 := by rw [hY]; simp [SW]
  obtain ⟨X, hX⟩ : ∃ X, X = Y.alloc (.cells #[.func (.func 73) #[.agg BD] #[], .func (.func 74) #[.agg BD] #[]] 110) := ⟨_, rfl⟩
  have BX : Below Y.heap.size Y X := by rw [hX]; exact (Below.refl _ _).alloc (Nat.le_refl _) _
  have RX : Blk X Y.heap.size #[.func (.func 73) #[.agg BD] #[], .func (.func 74) #[.agg BD] #[]] 110 := by rw [hX]; exact Blk.new _ _ _
  have KX : Below w.heap.size w X := (BW.trans (BY.mono (by omega))).trans (BX.mono (by omega))
  have AE : ((List.range 2).all fun i => [isBal bal, decide (m ≤ bal)].getD i false) = (isBal bal && decide (m ≤ bal)) := by
    simp [List.range, List.range.loop, List.getD]
  have CB : Hid (Calls Try.prog 72 #[.agg BD, .slice (some ⟨Y.heap.size, 0, none⟩) 2 2] X fun e w' => BidPost m bal (bodies vs) (accOk m (bodies vs)) (isBal bal && decide (m ≤ bal)) X e w') := by
    show Calls _ _ _ _ _
    have h := bidPromise m a c vs bal 0 false 0 0 none none 0 0 [] [] 0 0 X [73, 74] [isBal bal, decide (m ≤ bal)] Y.heap.size 2 (h1.below KX) l1 n1 RX.lt (by decide)
      (fun i hi => by
        match i, hi with
        | 0, _ => exact .inl rfl
        | 1, _ => exact .inr (.inl rfl))
      (fun i hi => by
        match i, hi with
        | 0, _ => rw [RX.cell, hBD]; rfl
        | 1, _ => rw [RX.cell, hBD]; rfl)
      (fun i hi V hV => by
        match i, hi with
        | 0, _ => exact bidInBallot m a c vs bal 0 false 0 0 none none 0 0 [] [] 0 0 V
        | 1, _ => exact bidKeeps m a c vs bal 0 false 0 0 none none 0 0 [] [] 0 0 V)
    rw [show ([73, 74] : List Nat).length = 2 from rfl, AE] at h
    rw [hBD]
    exact h
  have H3 : Hid (Y.heap.size = w.heap.size + 3 ∧ X.heap.size = w.heap.size + 4) := ⟨SY, by rw [hX]; simp [SY]⟩
  have HK : Hid (Below w.heap.size w X) := KX
  have ZX : Hid (Blk X (w.heap.size + 1) #[.int .i64 0, .slice none 0 0] 24) := (ZW.out.keep BY).keep BX
  have HW : Hid (W = _) := hW
  have HY : Hid (Y = _) := hY
  have HX : Hid (X = _) := hX
  have E1 : Hid (prM m bal (bodies vs) = if accOk m (bodies vs) then if (isBal bal && decide (m ≤ bal)) then bal else m else 0) := rfl
  have E2 : Hid (prB m (bodies vs) = if accOk m (bodies vs) then bodies vs else []) := rfl
  have E3 : Hid (prO m bal (bodies vs) = (accOk m (bodies vs) && (isBal bal && decide (m ≤ bal)))) := rfl
  generalize prM m bal (bodies vs) = M at E1 ⊢
  generalize prB m (bodies vs) = BB at E2 ⊢
  generalize prO m bal (bodies vs) = OO at E3 ⊢
  generalize (isBal bal && decide (m ≤ bal)) = A at CB E1 E3
  generalize accOk m (bodies vs) = K at CB E1 E2 E3
  obtain ⟨p0, p1⟩ := PW.out.cells2
  have SWH : Hid (W.heap.size = w.heap.size + 2) := SW
  clear AE h1 l1 BW SW BY SY BX RX KX hW hY hX
  go_enter Try.func25, Try.ntmps25
  go_upto_region 1 with fail
  rw [← HW.out]
  go_upto_region 2 with fail
  rw [← HBD.out, ← HY.out]
  have hmf : ∀ (fn : Fn) (first cap : Array Value) (w : World), (Instr.makeFunc fn first cap).run Try.prog w = .ok (.func fn first cap) w := fun _ _ _ _ => rfl
  have d0 : Y.cell? ⟨W.heap.size, 0, none⟩ = some (.int .i64 m) := by rw [DY.out.cell, HBD.out]; rfl
  have d1 : Y.cell? ⟨W.heap.size, 1, none⟩ = some (.slice a vs.length c) := by rw [DY.out.cell, HBD.out]; rfl
  have d2 : Y.cell? ⟨W.heap.size, 2, none⟩ = some (.int .i64 bal) := by rw [DY.out.cell, HBD.out]; rfl
  have d3 : Y.cell? ⟨W.heap.size, 3, none⟩ = some (.int .i64 0) := by rw [DY.out.cell, HBD.out]; rfl
  have d4 : Y.cell? ⟨W.heap.size, 4, none⟩ = some (.bool false) := by rw [DY.out.cell, HBD.out]; rfl
  have d5 : Y.cell? ⟨W.heap.size, 5, none⟩ = some (.int .i64 0) := by rw [DY.out.cell, HBD.out]; rfl
  have d6 : Y.cell? ⟨W.heap.size, 6, none⟩ = some (.int .i64 0) := by rw [DY.out.cell, HBD.out]; rfl
  have d7 : Y.cell? ⟨W.heap.size, 7, none⟩ = some (.slice none 0 0) := by rw [DY.out.cell, HBD.out]; rfl
  have d8 : Y.cell? ⟨W.heap.size, 8, none⟩ = some (.slice none 0 0) := by rw [DY.out.cell, HBD.out]; rfl
  have d9 : Y.cell? ⟨W.heap.size, 9, none⟩ = some (.int .i64 0) := by rw [DY.out.cell, HBD.out]; rfl
  have d10 : Y.cell? ⟨W.heap.size, 10, none⟩ = some (.int .i64 0) := by rw [DY.out.cell, HBD.out]; rfl
  clear hBD
  go_wp2_with fail
  rw [← HBD.out, ← HX.out]
  refine Calls.mono CB.out ?_
  rintro e w2 ⟨lv, us, rfl, o2, e2, b2⟩
  obtain ⟨la, lc, rfl⟩ := o2.form
  have O2 : Hid (OwnL w2 X.heap.size (.slice la us.length lc) us) := o2
  have U2 : Hid (bodies us = BB) := e2.trans E2.out.symm
  have K2 : Hid (Below w.heap.size w w2) := HK.out.trans (b2.mono HK.out.size)
  have Z2 : Hid (Blk w2 (w.heap.size + 1) #[.int .i64 0, .slice none 0 0] 24) := ZX.out.keep b2
  have M2 : Hid (M = if K then if A then bal else m else 0) := E1.out
  have O3 : Hid (OO = (K && A)) := E3.out
  clear o2 e2 b2 d0 d1 d2 d3 d4 d5 d6 d7 d8 d9 d10 p0 p1
  generalize (if K then if A then bal else m else 0) = PT at M2 ⊢
  generalize (K && A) = PO at O3 ⊢
  obtain ⟨z0, z1⟩ := Z2.out.cells2
  have fz := Z2.out.frozen
  go_wp2_with fail
  have zb := (((Z2.out.set 0 (.int .i64 PT)).set 1 (.slice la us.length lc)).eq (C' := #[.int .i64 PT, .slice la us.length lc]) (by simp)).cells2
  obtain ⟨y0, y1⟩ := zb
  refine bodyPost_ret (v := .tuple #[.agg #[.int .i64 PT, .slice la us.length lc], .bool PO]) (by simp [results, Try.results25, go_sem, y0, y1]) rfl ?_
  have on : Only (w.heap.size + 1) w2 ((w2.setCell ⟨w.heap.size + 1, 0, none⟩ (.int .i64 PT)).setCell ⟨w.heap.size + 1, 1, none⟩ (.slice la us.length lc)) := ((Only.refl _ _).setCell _).setCell _
  have s1 := H3.out
  exact ⟨_, us, by rw [M2.out, O3.out], OwnR.ofL ((O2.out.high (Nat.le_of_eq on.size.symm) fun b hb => on.block b (by omega)).low (by omega)), U2.out, K2.out.trans (on.below (by omega))⟩
end Go.Proofs.Ytbbbfnfpmaogoaa.Own
