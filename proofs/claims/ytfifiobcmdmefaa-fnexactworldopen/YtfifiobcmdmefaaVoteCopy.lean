/-
  Own text: what (impl.Vote).copied does: a vote whose lists are one's own.
-/
import Derived.Test.YtfifiobcmdmefaaEntCopy
namespace Go.Proofs.Ytfifiobcmdmefaa.Own
open Go.RowKit
set_option linter.unusedVariables false
set_option linter.unusedSimpArgs false

set_option maxRecDepth 100000 in
set_option maxHeartbeats 2000000 in
theorem voteCopied (x : VM) (w : World) (h1 : Sl w x.a1 x.b.xs) (h2 : Sl w x.a2 x.b.ys) (k1 : x.b.xs.length ≤ 2 ^ 40) (k2 : x.b.ys.length ≤ 2 ^ 40) :
    Calls Try.prog 53 #[.agg x.cells] w fun e w' => ∃ y : VM, e = .returned (.agg y.cells) ∧ y.body = x.body ∧ OneOwn w' w.heap.size y ∧ Below w.heap.size w w' := by
  obtain ⟨bal, ⟨n, p, q, xs, ys, v, k⟩, a1, c1, a2, c2⟩ := x
  simp only [VM.cells] at *
  obtain ⟨X, hX⟩ : ∃ X, X = (w.alloc (.cells #[.int .i64 bal, .bool n, .int .i64 p, .int .i64 q, .slice a1 xs.length c1, .slice a2 ys.length c2, .int .i64 v, .int .i64 k] 42)).alloc (.cells #[.int .i64 0, .bool false, .int .i64 0, .int .i64 0, .slice none 0 0, .slice none 0 0, .int .i64 0, .int .i64 0] 42) := ⟨_, rfl⟩
  have P0 : Hid (Blk X w.heap.size #[.int .i64 bal, .bool n, .int .i64 p, .int .i64 q, .slice a1 xs.length c1, .slice a2 ys.length c2, .int .i64 v, .int .i64 k] 42) := by
    show Blk _ _ _ _; rw [hX]; exact (Blk.new _ _ _).alloc _
  have R0 : Hid (Blk X (w.heap.size + 1) #[.int .i64 0, .bool false, .int .i64 0, .int .i64 0, .slice none 0 0, .slice none 0 0, .int .i64 0, .int .i64 0] 42) := by
    show Blk _ _ _ _; rw [hX]; exact Blk.new2 _ _ _ _
  have BX : Hid (Below w.heap.size w X) := by
    show Below _ _ _; rw [hX]; exact ((Below.refl _ _).alloc (Nat.le_refl _) _).alloc (by rw [size_new]; omega) _
  have SX : X.heap.size = w.heap.size + 1 + 1 := by rw [hX, size_new, size_new]
  have HX : Hid (X = _) := hX
  have EC := entCopied ⟨bal, ⟨n, p, q, xs, ys, v, k⟩, a1, c1, a2, c2⟩ X (h1.below BX.out) (h2.below BX.out) k1 k2
  simp only [VM.ecells] at EC
  have HC : Hid _ := EC
  clear hX EC h1 h2
  obtain ⟨q0, q1, q2, q3, q4, q5, q6, q7⟩ := P0.out.cells8
  go_enter Try.func53, Try.ntmps53
  go_upto_region 1 with fail
  rw [← HX.out]
  go_wp2_with fail
  refine Calls.mono HC.out ?_
  rintro e w3 ⟨⟨ybal, ⟨yn, yp, yq, yxs, yys, yv, yk⟩, g1, e1, g2, e2⟩, rfl, hyb, hy, b3⟩
  simp only [VM.body, Prod.mk.injEq, EB.mk.injEq] at hyb
  obtain ⟨rfl, rfl, rfl, rfl, rfl, rfl, rfl, rfl⟩ := hyb
  have Y3 : Hid (OneOwn w3 X.heap.size ⟨ybal, ⟨yn, yp, yq, yxs, yys, yv, yk⟩, g1, e1, g2, e2⟩) := hy
  have B3 : Hid (Below X.heap.size X w3) := b3
  have P3 : Hid (Blk w3 w.heap.size #[.int .i64 ybal, .bool yn, .int .i64 yp, .int .i64 yq, .slice a1 yxs.length c1, .slice a2 yys.length c2, .int .i64 yv, .int .i64 yk] 42) := P0.out.keep B3.out
  have R3 : Hid (Blk w3 (w.heap.size + 1) #[.int .i64 0, .bool false, .int .i64 0, .int .i64 0, .slice none 0 0, .slice none 0 0, .int .i64 0, .int .i64 0] 42) := R0.out.keep B3.out
  clear hy b3 q0 q1 q2 q3 q4 q5 q6 q7
  obtain ⟨q0, q1, q2, q3, q4, q5, q6, q7⟩ := P3.out.cells8
  have fr := P3.out.frozen
  go_upto_region 2 with fail
  obtain ⟨Z, hZ⟩ : ∃ Z, Z = ((((((w3.setCell ⟨w.heap.size, 1, none⟩ (.bool yn)).setCell ⟨w.heap.size, 2, none⟩ (.int .i64 yp)).setCell ⟨w.heap.size, 3, none⟩ (.int .i64 yq)).setCell ⟨w.heap.size, 4, none⟩ (.slice g1 yxs.length e1)).setCell ⟨w.heap.size, 5, none⟩ (.slice g2 yys.length e2)).setCell ⟨w.heap.size, 6, none⟩ (.int .i64 yv)).setCell ⟨w.heap.size, 7, none⟩ (.int .i64 yk) := ⟨_, rfl⟩
  rw [← hZ]
  have SZ : Z.heap.size = w3.heap.size := by rw [hZ]; simp [World.setCell]
  have S3 : w.heap.size + 1 + 1 ≤ w3.heap.size := by have := B3.out.size; omega
  have PZ : Hid (Blk Z w.heap.size #[.int .i64 ybal, .bool yn, .int .i64 yp, .int .i64 yq, .slice g1 yxs.length e1, .slice g2 yys.length e2, .int .i64 yv, .int .i64 yk] 42) := by
    show Blk _ _ _ _; rw [hZ]; exact ((((((P3.out.set 1 _).set 2 _).set 3 _).set 4 _).set 5 _).set 6 _).set 7 _
  have RZ : Hid (Blk Z (w.heap.size + 1) #[.int .i64 0, .bool false, .int .i64 0, .int .i64 0, .slice none 0 0, .slice none 0 0, .int .i64 0, .int .i64 0] 42) := by
    show Blk _ _ _ _; rw [hZ]; exact ((((((R3.out.other (by omega) _ _).other (by omega) _ _).other (by omega) _ _).other (by omega) _ _).other (by omega) _ _).other (by omega) _ _).other (by omega) _ _
  have BZ : Hid (Below w.heap.size w Z) := by
    show Below _ _ _; rw [hZ]; exact (((((((BX.out.trans (B3.out.mono (by omega))).setCell (Nat.le_refl _) _).setCell (Nat.le_refl _) _).setCell (Nat.le_refl _) _).setCell (Nat.le_refl _) _).setCell (Nat.le_refl _) _).setCell (Nat.le_refl _) _).setCell (Nat.le_refl _) _
  have zb : ∀ b, b ≠ w.heap.size → Z.heap[b]? = w3.heap[b]? := fun b hb => by
    rw [hZ, Below.heap_setCell _ _ _ _ hb, Below.heap_setCell _ _ _ _ hb, Below.heap_setCell _ _ _ _ hb, Below.heap_setCell _ _ _ _ hb, Below.heap_setCell _ _ _ _ hb, Below.heap_setCell _ _ _ _ hb, Below.heap_setCell _ _ _ _ hb]
  have YZ : Hid (OneOwn Z X.heap.size ⟨ybal, ⟨yn, yp, yq, yxs, yys, yv, yk⟩, g1, e1, g2, e2⟩) := Y3.out.blkV (Nat.le_of_eq SZ.symm) fun b hb => zb b (by
    rcases hb with hb | hb
    · have := Y3.out.b1 b hb; omega
    · have := Y3.out.b2 b hb; omega)
  clear q0 q1 q2 q3 q4 q5 q6 q7 fr hZ zb
  obtain ⟨q0, q1, q2, q3, q4, q5, q6, q7⟩ := PZ.out.cells8
  obtain ⟨r0, r1, r2, r3, r4, r5, r6, r7⟩ := RZ.out.cells8
  have fr := RZ.out.frozen
  go_wp2_with fail
  obtain ⟨U, hU⟩ : ∃ U, U = (((((((Z.setCell ⟨w.heap.size + 1, 0, none⟩ (.int .i64 ybal)).setCell ⟨w.heap.size + 1, 1, none⟩ (.bool yn)).setCell ⟨w.heap.size + 1, 2, none⟩ (.int .i64 yp)).setCell ⟨w.heap.size + 1, 3, none⟩ (.int .i64 yq)).setCell ⟨w.heap.size + 1, 4, none⟩ (.slice g1 yxs.length e1)).setCell ⟨w.heap.size + 1, 5, none⟩ (.slice g2 yys.length e2)).setCell ⟨w.heap.size + 1, 6, none⟩ (.int .i64 yv)).setCell ⟨w.heap.size + 1, 7, none⟩ (.int .i64 yk) := ⟨_, rfl⟩
  rw [← hU]
  have RU : Blk U (w.heap.size + 1) #[.int .i64 ybal, .bool yn, .int .i64 yp, .int .i64 yq, .slice g1 yxs.length e1, .slice g2 yys.length e2, .int .i64 yv, .int .i64 yk] 42 := by
    rw [hU]; exact (((((((RZ.out.set 0 _).set 1 _).set 2 _).set 3 _).set 4 _).set 5 _).set 6 _).set 7 _
  have SU : U.heap.size = Z.heap.size := by rw [hU]; simp [World.setCell]
  have BU : Below w.heap.size w U := by
    rw [hU]
    exact (((((((BZ.out.setCell (by show w.heap.size ≤ w.heap.size + 1; omega) _).setCell (by show w.heap.size ≤ w.heap.size + 1; omega) _).setCell (by show w.heap.size ≤ w.heap.size + 1; omega) _).setCell (by show w.heap.size ≤ w.heap.size + 1; omega) _).setCell (by show w.heap.size ≤ w.heap.size + 1; omega) _).setCell (by show w.heap.size ≤ w.heap.size + 1; omega) _).setCell (by show w.heap.size ≤ w.heap.size + 1; omega) _).setCell (by show w.heap.size ≤ w.heap.size + 1; omega) _
  have ub : ∀ b, b ≠ w.heap.size + 1 → U.heap[b]? = Z.heap[b]? := fun b hb => by
    rw [hU, Below.heap_setCell _ _ _ _ hb, Below.heap_setCell _ _ _ _ hb, Below.heap_setCell _ _ _ _ hb, Below.heap_setCell _ _ _ _ hb, Below.heap_setCell _ _ _ _ hb, Below.heap_setCell _ _ _ _ hb, Below.heap_setCell _ _ _ _ hb, Below.heap_setCell _ _ _ _ hb]
  have YU : OneOwn U w.heap.size ⟨ybal, ⟨yn, yp, yq, yxs, yys, yv, yk⟩, g1, e1, g2, e2⟩ := (YZ.out.blkV (Nat.le_of_eq SU.symm) fun b hb => ub b (by
    rcases hb with hb | hb
    · have := YZ.out.b1 b hb; omega
    · have := YZ.out.b2 b hb; omega)).low (by omega)
  obtain ⟨z0, z1, z2, z3, z4, z5, z6, z7⟩ := RU.cells8
  refine bodyPost_ret (v := .agg #[.int .i64 ybal, .bool yn, .int .i64 yp, .int .i64 yq, .slice g1 yxs.length e1, .slice g2 yys.length e2, .int .i64 yv, .int .i64 yk]) (by simp [results, Try.results53, go_sem, z0, z1, z2, z3, z4, z5, z6, z7]) rfl ?_
  exact ⟨⟨ybal, ⟨yn, yp, yq, yxs, yys, yv, yk⟩, g1, e1, g2, e2⟩, rfl, rfl, YU, BU⟩
end Go.Proofs.Ytfifiobcmdmefaa.Own
