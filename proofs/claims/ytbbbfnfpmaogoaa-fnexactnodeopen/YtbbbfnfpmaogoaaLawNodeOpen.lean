/-
  Own text, by program (gen_lawnode.py): laws.FnExactNodeOpen.
-/
import Derived.Test.YtbbbfnfpmaogoaaNodeOpenIS
namespace Go.Proofs.Ytbbbfnfpmaogoaa.Own
open Go.RowKit
set_option linter.unusedVariables false
set_option linter.unusedSimpArgs false

set_option maxRecDepth 100000 in
set_option maxHeartbeats 1000000 in
theorem lawNodeOpen (i : Int) (w : World) (hi : (Lit.int IntKind.i64 i).wf = true) :
    Calls Try.prog 3 #[.int .i64 i] w fun e w' => e = .returned (.bool true) ∧ Below w.heap.size w w' := by
  have CS : Hid (∀ V, Calls Try.prog 14 #[.int .i64 i] V fun e w' => e = .returned (.agg (nodeZ (idOf i))) ∧ Below V.heap.size V w') := specNodeOpen i
  have CI : Hid (∀ V, Calls Try.prog 15 #[.int .i64 i] V fun e w' => e = .returned (.agg (nodeZ (idOf i))) ∧ Below V.heap.size V w') := implNodeOpen i
  generalize idOf i = z at CS CI
  have BW : Hid (Below w.heap.size w w) := Below.refl _ _
  go_enter Try.func3, Try.ntmps3
  go_wp2_with fail
  refine (CS.out w).mono ?_
  rintro e x_ ⟨rfl, b_⟩
  have BW : Hid (Below w.heap.size w x_) := BW.out.trans (b_.mono BW.out.size)
  obtain ⟨bS, hb_⟩ : ∃ b, b = x_.heap.size := ⟨_, rfl⟩
  have XB : Hid (Blk (x_.alloc (.cells (nodeZ 0) 37)) x_.heap.size (nodeZ 0) 37) := Blk.new _ _ _
  clear b_
  go_wp2_with (refine wpList_storeB rfl 37 (.tmp 3) (.tmp 9) rfl x_.heap.size rfl XB.out (nodeZ z) rfl rfl (nodeInfo _) (nodeZ_one _) ?_)
  intro u1 zb on
  have d_ : Below x_.heap.size x_ u1 := ((Below.refl _ _).alloc (Nat.le_refl _) _).trans (on.below (Nat.le_refl _))
  rw [← hb_] at zb
  rw [← hb_]
  have n_ : Hid (Blk u1 bS (nodeZ z) 37) := zb
  have BW : Hid (Below w.heap.size w u1) := BW.out.trans (d_.mono BW.out.size)
  have BS : Hid (Blk u1 bS (nodeZ z) 37) := n_.out
  clear zb on hb_ d_ n_ XB
  go_wp2_with fail
  refine (CI.out u1).mono ?_
  rintro e x_ ⟨rfl, b_⟩
  have BS : Hid (Blk x_ bS (nodeZ z) 37) := BS.out.keep b_
  have BW : Hid (Below w.heap.size w x_) := BW.out.trans (b_.mono BW.out.size)
  obtain ⟨bG, hb_⟩ : ∃ b, b = x_.heap.size := ⟨_, rfl⟩
  have XB : Hid (Blk (x_.alloc (.cells (nodeZ 0) 37)) x_.heap.size (nodeZ 0) 37) := Blk.new _ _ _
  clear b_
  go_wp2_with (refine wpList_storeB rfl 37 (.tmp 4) (.tmp 11) rfl x_.heap.size rfl XB.out (nodeZ z) rfl rfl (nodeInfo _) (nodeZ_one _) ?_)
  intro u2 zb on
  have d_ : Below x_.heap.size x_ u2 := ((Below.refl _ _).alloc (Nat.le_refl _) _).trans (on.below (Nat.le_refl _))
  rw [← hb_] at zb
  rw [← hb_]
  have n_ : Hid (Blk u2 bG (nodeZ z) 37) := zb
  have BS : Hid (Blk u2 bS (nodeZ z) 37) := BS.out.keep d_
  have BW : Hid (Below w.heap.size w u2) := BW.out.trans (d_.mono BW.out.size)
  have BG : Hid (Blk u2 bG (nodeZ z) 37) := n_.out
  clear zb on hb_ d_ n_ XB
  go_wp2_with (first | (refine wpList_loadB rfl 37 (.tmp 4) rfl bG rfl BG.out _ Try.underlying37 rfl (nodeInfo _) ?_) | (refine wpList_loadB rfl 37 (.tmp 3) rfl bS rfl BS.out _ Try.underlying37 rfl (nodeInfo _) ?_))
  refine (eqNode0 z u2).mono ?_
  rintro e u3 ⟨rfl, b_⟩
  have BS : Hid (Blk u3 bS (nodeZ z) 37) := BS.out.keep b_
  have BG : Hid (Blk u3 bG (nodeZ z) 37) := BG.out.keep b_
  have BW : Hid (Below w.heap.size w u3) := BW.out.trans (b_.mono BW.out.size)
  clear b_
  go_wp2_with (first | (refine wpList_loadB rfl 37 (.tmp 4) rfl bG rfl BG.out _ Try.underlying37 rfl (nodeInfo _) ?_))
  refine (markNode0 z 1 u3 (by decide) (by decide)).mono ?_
  rintro e u4 ⟨rfl, b_⟩
  have BS : Hid (Blk u4 bS (nodeZ z) 37) := BS.out.keep b_
  have BG : Hid (Blk u4 bG (nodeZ z) 37) := BG.out.keep b_
  have BW : Hid (Below w.heap.size w u4) := BW.out.trans (b_.mono BW.out.size)
  clear b_
  go_wp2_with (first | (refine wpList_loadB rfl 37 (.tmp 4) rfl bG rfl BG.out _ Try.underlying37 rfl (nodeInfo _) ?_))
  refine (heldNode0 z 1 u4 (by decide) (by decide)).mono ?_
  rintro e u5 ⟨rfl, b_⟩
  have BS : Hid (Blk u5 bS (nodeZ z) 37) := BS.out.keep b_
  have BG : Hid (Blk u5 bG (nodeZ z) 37) := BG.out.keep b_
  have BW : Hid (Below w.heap.size w u5) := BW.out.trans (b_.mono BW.out.size)
  clear b_
  go_wp2_with fail
  refine (CI.out u5).mono ?_
  rintro e x_ ⟨rfl, b_⟩
  have BS : Hid (Blk x_ bS (nodeZ z) 37) := BS.out.keep b_
  have BG : Hid (Blk x_ bG (nodeZ z) 37) := BG.out.keep b_
  have BW : Hid (Below w.heap.size w x_) := BW.out.trans (b_.mono BW.out.size)
  obtain ⟨bH, hb_⟩ : ∃ b, b = x_.heap.size := ⟨_, rfl⟩
  have XB : Hid (Blk (x_.alloc (.cells (nodeZ 0) 37)) x_.heap.size (nodeZ 0) 37) := Blk.new _ _ _
  clear b_
  go_wp2_with (refine wpList_storeB rfl 37 (.tmp 7) (.tmp 28) rfl x_.heap.size rfl XB.out (nodeZ z) rfl rfl (nodeInfo _) (nodeZ_one _) ?_)
  intro u6 zb on
  have d_ : Below x_.heap.size x_ u6 := ((Below.refl _ _).alloc (Nat.le_refl _) _).trans (on.below (Nat.le_refl _))
  rw [← hb_] at zb
  rw [← hb_]
  have n_ : Hid (Blk u6 bH (nodeZ z) 37) := zb
  have BS : Hid (Blk u6 bS (nodeZ z) 37) := BS.out.keep d_
  have BG : Hid (Blk u6 bG (nodeZ z) 37) := BG.out.keep d_
  have BW : Hid (Below w.heap.size w u6) := BW.out.trans (d_.mono BW.out.size)
  have BH : Hid (Blk u6 bH (nodeZ z) 37) := n_.out
  clear zb on hb_ d_ n_ XB
  go_wp2_with (first | (refine wpList_loadB rfl 37 (.tmp 7) rfl bH rfl BH.out _ Try.underlying37 rfl (nodeInfo _) ?_) | (refine wpList_loadB rfl 37 (.tmp 3) rfl bS rfl BS.out _ Try.underlying37 rfl (nodeInfo _) ?_))
  refine (eqNode0 z u6).mono ?_
  rintro e u7 ⟨rfl, b_⟩
  have BS : Hid (Blk u7 bS (nodeZ z) 37) := BS.out.keep b_
  have BG : Hid (Blk u7 bG (nodeZ z) 37) := BG.out.keep b_
  have BH : Hid (Blk u7 bH (nodeZ z) 37) := BH.out.keep b_
  have BW : Hid (Below w.heap.size w u7) := BW.out.trans (b_.mono BW.out.size)
  clear b_
  go_wp2_with (first | (refine wpList_loadB rfl 37 (.tmp 4) rfl bG rfl BG.out _ Try.underlying37 rfl (nodeInfo _) ?_))
  refine (heldNode0 z 1 u7 (by decide) (by decide)).mono ?_
  rintro e u8 ⟨rfl, b_⟩
  have BS : Hid (Blk u8 bS (nodeZ z) 37) := BS.out.keep b_
  have BG : Hid (Blk u8 bG (nodeZ z) 37) := BG.out.keep b_
  have BH : Hid (Blk u8 bH (nodeZ z) 37) := BH.out.keep b_
  have BW : Hid (Below w.heap.size w u8) := BW.out.trans (b_.mono BW.out.size)
  clear b_
  go_wp2_with fail
  go_ret
  exact ⟨rfl, BW.out⟩
end Go.Proofs.Ytbbbfnfpmaogoaa.Own
