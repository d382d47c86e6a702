/-
  Own text, by program (gen_nodeopen.py): a node that has nothing but its number: opened, compared, marked, held.
-/
import Derived.Test.YtfifiobcmdmefaaNode0A
namespace Go.Proofs.Ytfifiobcmdmefaa.Own
open Go.RowKit
set_option linter.unusedVariables false
set_option linter.unusedSimpArgs false
def nodeZ (z : Int) : Array Value := #[.int .i64 z, .int .i64 0, .slice none 0 0, .slice none 0 0, .int .i64 0, .int .i64 0, .int .i64 0, .slice none 0 0, .slice none 0 0, .bool false, .int .i64 0, .int .i64 0, .slice none 0 0, .slice none 0 0, .int .i64 0, .int .i64 0, .slice none 0 0, .bool false, .slice none 0 0, .bool false, .int .i64 0, .int .i64 0, .slice none 0 0, .slice none 0 0, .int .i64 0, .int .i64 0, .slice none 0 0]

set_option maxRecDepth 100000 in
set_option maxHeartbeats 2000000 in
theorem eqNode0 (z : Int) (w : World) :
    Calls Try.prog 108 #[.agg (nodeZ z), .agg (nodeZ z)] w fun e w' => e = .returned (.bool true) ∧ Below w.heap.size w w' := by
  obtain ⟨W, hW⟩ : ∃ W, W = (w.alloc (.cells (nodeZ z) 104)).alloc (.cells (nodeZ z) 104) := ⟨_, rfl⟩
  have BW : Hid (Below w.heap.size w W) := by show Below _ _ _; rw [hW]; exact ((Below.refl _ _).alloc (Nat.le_refl _) _).alloc (by simp) _
  have PW : Hid (Blk W w.heap.size (nodeZ z) 104) := by show Blk _ _ _ _; rw [hW]; exact (Blk.new _ _ _).alloc _
  have QW : Hid (Blk W (w.heap.size + 1) (nodeZ z) 104) := by show Blk _ _ _ _; rw [hW]; exact Blk.new2 _ _ _ _
  have HW : Hid (W = _) := hW
  clear hW
  unfold nodeZ at HW ⊢
  go_enter Try.func108, Try.ntmps108
  go_upto_region 1 with fail
  rw [← HW.out]
  have c0 : W.cell? ⟨w.heap.size, 0, none⟩ = some (.int .i64 z) := by rw [PW.out.cell]; rfl
  have d0 : W.cell? ⟨w.heap.size + 1, 0, none⟩ = some (.int .i64 z) := by rw [QW.out.cell]; rfl
  have c1 : W.cell? ⟨w.heap.size, 1, none⟩ = some (.int .i64 0) := by rw [PW.out.cell]; rfl
  have d1 : W.cell? ⟨w.heap.size + 1, 1, none⟩ = some (.int .i64 0) := by rw [QW.out.cell]; rfl
  have c2 : W.cell? ⟨w.heap.size, 2, none⟩ = some (.slice none 0 0) := by rw [PW.out.cell]; rfl
  have d2 : W.cell? ⟨w.heap.size + 1, 2, none⟩ = some (.slice none 0 0) := by rw [QW.out.cell]; rfl
  go_wp2_with fail
  refine (eqAcc0n W).mono ?_
  rintro e w1 ⟨rfl, b_⟩
  have BW : Hid (Below w.heap.size w w1) := BW.out.trans (b_.mono BW.out.size)
  have PW : Hid (Blk w1 w.heap.size (nodeZ z) 104) := PW.out.keep b_
  have QW : Hid (Blk w1 (w.heap.size + 1) (nodeZ z) 104) := QW.out.keep b_
  clear b_ c0 d0 c1 d1 c2 d2
  have c3 : w1.cell? ⟨w.heap.size, 3, none⟩ = some (.slice none 0 0) := by rw [PW.out.cell]; rfl
  have d3 : w1.cell? ⟨w.heap.size + 1, 3, none⟩ = some (.slice none 0 0) := by rw [QW.out.cell]; rfl
  go_wp2_with fail
  refine (eqEntryS0n w1).mono ?_
  rintro e w2 ⟨rfl, b_⟩
  have BW : Hid (Below w.heap.size w w2) := BW.out.trans (b_.mono BW.out.size)
  have PW : Hid (Blk w2 w.heap.size (nodeZ z) 104) := PW.out.keep b_
  have QW : Hid (Blk w2 (w.heap.size + 1) (nodeZ z) 104) := QW.out.keep b_
  clear b_ c3 d3
  have c4 : w2.cell? ⟨w.heap.size, 4, none⟩ = some (.int .i64 0) := by rw [PW.out.cell]; rfl
  have d4 : w2.cell? ⟨w.heap.size + 1, 4, none⟩ = some (.int .i64 0) := by rw [QW.out.cell]; rfl
  have c5 : w2.cell? ⟨w.heap.size, 5, none⟩ = some (.int .i64 0) := by rw [PW.out.cell]; rfl
  have d5 : w2.cell? ⟨w.heap.size + 1, 5, none⟩ = some (.int .i64 0) := by rw [QW.out.cell]; rfl
  have c6 : w2.cell? ⟨w.heap.size, 6, none⟩ = some (.int .i64 0) := by rw [PW.out.cell]; rfl
  have d6 : w2.cell? ⟨w.heap.size + 1, 6, none⟩ = some (.int .i64 0) := by rw [QW.out.cell]; rfl
  have c7 : w2.cell? ⟨w.heap.size, 7, none⟩ = some (.slice none 0 0) := by rw [PW.out.cell]; rfl
  have d7 : w2.cell? ⟨w.heap.size + 1, 7, none⟩ = some (.slice none 0 0) := by rw [QW.out.cell]; rfl
  go_wp2_with fail
  refine (eqBoolS0n w2).mono ?_
  rintro e w3 ⟨rfl, b_⟩
  have BW : Hid (Below w.heap.size w w3) := BW.out.trans (b_.mono BW.out.size)
  have PW : Hid (Blk w3 w.heap.size (nodeZ z) 104) := PW.out.keep b_
  have QW : Hid (Blk w3 (w.heap.size + 1) (nodeZ z) 104) := QW.out.keep b_
  clear b_ c4 d4 c5 d5 c6 d6 c7 d7
  have c8 : w3.cell? ⟨w.heap.size, 8, none⟩ = some (.slice none 0 0) := by rw [PW.out.cell]; rfl
  have d8 : w3.cell? ⟨w.heap.size + 1, 8, none⟩ = some (.slice none 0 0) := by rw [QW.out.cell]; rfl
  go_wp2_with fail
  refine (eqVoteS0n w3).mono ?_
  rintro e w4 ⟨rfl, b_⟩
  have BW : Hid (Below w.heap.size w w4) := BW.out.trans (b_.mono BW.out.size)
  have PW : Hid (Blk w4 w.heap.size (nodeZ z) 104) := PW.out.keep b_
  have QW : Hid (Blk w4 (w.heap.size + 1) (nodeZ z) 104) := QW.out.keep b_
  clear b_ c8 d8
  have c9 : w4.cell? ⟨w.heap.size, 9, none⟩ = some (.bool false) := by rw [PW.out.cell]; rfl
  have d9 : w4.cell? ⟨w.heap.size + 1, 9, none⟩ = some (.bool false) := by rw [QW.out.cell]; rfl
  have c10 : w4.cell? ⟨w.heap.size, 10, none⟩ = some (.int .i64 0) := by rw [PW.out.cell]; rfl
  have d10 : w4.cell? ⟨w.heap.size + 1, 10, none⟩ = some (.int .i64 0) := by rw [QW.out.cell]; rfl
  have c11 : w4.cell? ⟨w.heap.size, 11, none⟩ = some (.int .i64 0) := by rw [PW.out.cell]; rfl
  have d11 : w4.cell? ⟨w.heap.size + 1, 11, none⟩ = some (.int .i64 0) := by rw [QW.out.cell]; rfl
  have c12 : w4.cell? ⟨w.heap.size, 12, none⟩ = some (.slice none 0 0) := by rw [PW.out.cell]; rfl
  have d12 : w4.cell? ⟨w.heap.size + 1, 12, none⟩ = some (.slice none 0 0) := by rw [QW.out.cell]; rfl
  have c13 : w4.cell? ⟨w.heap.size, 13, none⟩ = some (.slice none 0 0) := by rw [PW.out.cell]; rfl
  have d13 : w4.cell? ⟨w.heap.size + 1, 13, none⟩ = some (.slice none 0 0) := by rw [QW.out.cell]; rfl
  have c14 : w4.cell? ⟨w.heap.size, 14, none⟩ = some (.int .i64 0) := by rw [PW.out.cell]; rfl
  have d14 : w4.cell? ⟨w.heap.size + 1, 14, none⟩ = some (.int .i64 0) := by rw [QW.out.cell]; rfl
  have c15 : w4.cell? ⟨w.heap.size, 15, none⟩ = some (.int .i64 0) := by rw [PW.out.cell]; rfl
  have d15 : w4.cell? ⟨w.heap.size + 1, 15, none⟩ = some (.int .i64 0) := by rw [QW.out.cell]; rfl
  go_wp2_with fail
  refine (eqEntry0n w4).mono ?_
  rintro e w5 ⟨rfl, b_⟩
  have BW : Hid (Below w.heap.size w w5) := BW.out.trans (b_.mono BW.out.size)
  have PW : Hid (Blk w5 w.heap.size (nodeZ z) 104) := PW.out.keep b_
  have QW : Hid (Blk w5 (w.heap.size + 1) (nodeZ z) 104) := QW.out.keep b_
  clear b_ c9 d9 c10 d10 c11 d11 c12 d12 c13 d13 c14 d14 c15 d15
  have c16 : w5.cell? ⟨w.heap.size, 16, none⟩ = some (.slice none 0 0) := by rw [PW.out.cell]; rfl
  have d16 : w5.cell? ⟨w.heap.size + 1, 16, none⟩ = some (.slice none 0 0) := by rw [QW.out.cell]; rfl
  go_wp2_with fail
  refine (eqBoolS0n w5).mono ?_
  rintro e w6 ⟨rfl, b_⟩
  have BW : Hid (Below w.heap.size w w6) := BW.out.trans (b_.mono BW.out.size)
  have PW : Hid (Blk w6 w.heap.size (nodeZ z) 104) := PW.out.keep b_
  have QW : Hid (Blk w6 (w.heap.size + 1) (nodeZ z) 104) := QW.out.keep b_
  clear b_ c16 d16
  have c17 : w6.cell? ⟨w.heap.size, 17, none⟩ = some (.bool false) := by rw [PW.out.cell]; rfl
  have d17 : w6.cell? ⟨w.heap.size + 1, 17, none⟩ = some (.bool false) := by rw [QW.out.cell]; rfl
  have c18 : w6.cell? ⟨w.heap.size, 18, none⟩ = some (.slice none 0 0) := by rw [PW.out.cell]; rfl
  have d18 : w6.cell? ⟨w.heap.size + 1, 18, none⟩ = some (.slice none 0 0) := by rw [QW.out.cell]; rfl
  go_wp2_with fail
  refine (eqInsS0n w6).mono ?_
  rintro e w7 ⟨rfl, b_⟩
  have BW : Hid (Below w.heap.size w w7) := BW.out.trans (b_.mono BW.out.size)
  have PW : Hid (Blk w7 w.heap.size (nodeZ z) 104) := PW.out.keep b_
  have QW : Hid (Blk w7 (w.heap.size + 1) (nodeZ z) 104) := QW.out.keep b_
  clear b_ c17 d17 c18 d18
  have c19 : w7.cell? ⟨w.heap.size, 19, none⟩ = some (.bool false) := by rw [PW.out.cell]; rfl
  have d19 : w7.cell? ⟨w.heap.size + 1, 19, none⟩ = some (.bool false) := by rw [QW.out.cell]; rfl
  have c20 : w7.cell? ⟨w.heap.size, 20, none⟩ = some (.int .i64 0) := by rw [PW.out.cell]; rfl
  have d20 : w7.cell? ⟨w.heap.size + 1, 20, none⟩ = some (.int .i64 0) := by rw [QW.out.cell]; rfl
  have c21 : w7.cell? ⟨w.heap.size, 21, none⟩ = some (.int .i64 0) := by rw [PW.out.cell]; rfl
  have d21 : w7.cell? ⟨w.heap.size + 1, 21, none⟩ = some (.int .i64 0) := by rw [QW.out.cell]; rfl
  have c22 : w7.cell? ⟨w.heap.size, 22, none⟩ = some (.slice none 0 0) := by rw [PW.out.cell]; rfl
  have d22 : w7.cell? ⟨w.heap.size + 1, 22, none⟩ = some (.slice none 0 0) := by rw [QW.out.cell]; rfl
  have c23 : w7.cell? ⟨w.heap.size, 23, none⟩ = some (.slice none 0 0) := by rw [PW.out.cell]; rfl
  have d23 : w7.cell? ⟨w.heap.size + 1, 23, none⟩ = some (.slice none 0 0) := by rw [QW.out.cell]; rfl
  have c24 : w7.cell? ⟨w.heap.size, 24, none⟩ = some (.int .i64 0) := by rw [PW.out.cell]; rfl
  have d24 : w7.cell? ⟨w.heap.size + 1, 24, none⟩ = some (.int .i64 0) := by rw [QW.out.cell]; rfl
  have c25 : w7.cell? ⟨w.heap.size, 25, none⟩ = some (.int .i64 0) := by rw [PW.out.cell]; rfl
  have d25 : w7.cell? ⟨w.heap.size + 1, 25, none⟩ = some (.int .i64 0) := by rw [QW.out.cell]; rfl
  go_wp2_with fail
  refine (eqEntry0n w7).mono ?_
  rintro e w8 ⟨rfl, b_⟩
  have BW : Hid (Below w.heap.size w w8) := BW.out.trans (b_.mono BW.out.size)
  have PW : Hid (Blk w8 w.heap.size (nodeZ z) 104) := PW.out.keep b_
  have QW : Hid (Blk w8 (w.heap.size + 1) (nodeZ z) 104) := QW.out.keep b_
  clear b_ c19 d19 c20 d20 c21 d21 c22 d22 c23 d23 c24 d24 c25 d25
  have c26 : w8.cell? ⟨w.heap.size, 26, none⟩ = some (.slice none 0 0) := by rw [PW.out.cell]; rfl
  have d26 : w8.cell? ⟨w.heap.size + 1, 26, none⟩ = some (.slice none 0 0) := by rw [QW.out.cell]; rfl
  go_wp2_with fail
  refine (eqEntryS0n w8).mono ?_
  rintro e w9 ⟨rfl, b_⟩
  have BW : Hid (Below w.heap.size w w9) := BW.out.trans (b_.mono BW.out.size)
  have PW : Hid (Blk w9 w.heap.size (nodeZ z) 104) := PW.out.keep b_
  have QW : Hid (Blk w9 (w.heap.size + 1) (nodeZ z) 104) := QW.out.keep b_
  clear b_ c26 d26
  go_wp2_with fail
  go_ret
  exact ⟨rfl, BW.out⟩

end Go.Proofs.Ytfifiobcmdmefaa.Own
