/-
  Own text: what laws.szAcc, toAcc and eqAcc do.
-/
import Derived.Test.YtfifiobcmdmefaaVoteFit
namespace Go.Proofs.Ytfifiobcmdmefaa.Own
open Go.RowKit
set_option linter.unusedVariables false
set_option linter.unusedSimpArgs false

set_option maxHeartbeats 1000000 in
theorem szAcc (m : Int) (a : Option Addr) (c : Nat) (vs : List VM) (left : Int) (w : World) (h : SlV w a vs) (hl : vs.length ≤ maxLen) (hm : VM0 vs) (h0 : 0 ≤ left) (h1 : left ≤ 2 ^ 60) :
    Calls Try.prog 142 #[.agg #[.int .i64 m, .slice a vs.length c], .int .i64 left] w fun e w' => e = .returned (.int .i64 (if left < (vs.length + sumV vs vs.length : Nat) then -1 else left - (vs.length + sumV vs vs.length : Nat))) ∧ Below w.heap.size w w' := by
  obtain ⟨W, hW⟩ : ∃ W, W = w.alloc (.cells #[.int .i64 m, .slice a vs.length c] 160) := ⟨_, rfl⟩
  have BW : Hid (Below w.heap.size w W) := by show Below _ _ _; rw [hW]; exact (Below.refl _ _).alloc (Nat.le_refl _) _
  have HW : Hid (W = _) := hW
  clear hW
  have C := szVoteS a c vs left W (h.below BW.out) hl hm h0 h1
  clear h hm
  obtain ⟨T, hT⟩ : ∃ T, T = vs.length + sumV vs vs.length := ⟨_, rfl⟩
  rw [← hT] at C ⊢
  by_cases hb : left < (T : Nat)
  · rw [if_pos hb] at C ⊢
    have HC : Hid (Calls _ _ _ _ _) := C
    clear C hT hb
    go_enter Try.func142, Try.ntmps142
    go_wp2_with fail
    rw [← HW.out]
    refine Calls.mono HC.out ?_
    rintro e w1 ⟨rfl, b1⟩
    have B1 : Hid (Below w.heap.size w w1) := BW.out.trans (b1.mono BW.out.size)
    clear b1
    go_wp2_with fail
    go_ret
    exact ⟨rfl, B1.out⟩
  · rw [if_neg hb] at C ⊢
    have hn : ¬ left - (T : Int) < 0 := by omega
    generalize left - (T : Int) = z at C hn ⊢
    have HC : Hid (Calls _ _ _ _ _) := C
    clear C hT hb
    go_enter Try.func142, Try.ntmps142
    go_wp2_with fail
    rw [← HW.out]
    refine Calls.mono HC.out ?_
    rintro e w1 ⟨rfl, b1⟩
    have B1 : Hid (Below w.heap.size w w1) := BW.out.trans (b1.mono BW.out.size)
    clear b1
    go_wp2_with fail
    go_ret
    exact ⟨rfl, B1.out⟩

set_option maxRecDepth 100000 in
set_option maxHeartbeats 1000000 in
theorem toAcc (m : Int) (a : Option Addr) (c : Nat) (vs : List VM) (w : World) (h : SlV w a vs) (hn : vs.length ≤ 2 ^ 40) (hl : VL0 vs) :
    Calls Try.prog 148 #[.agg #[.int .i64 m, .slice a vs.length c]] w fun e w' => ∃ g gs, e = .returned (.agg #[.int .i64 m, .slice (some ⟨g, 0, none⟩) vs.length vs.length]) ∧ w.heap.size ≤ g ∧ CopyV w' g gs (bodies vs) ∧ RowV w' g vs.length ∧ Below w.heap.size w w' := by
  obtain ⟨W, hW⟩ : ∃ W, W = ((w.alloc (.cells #[.int .i64 m, .slice a vs.length c] 160)).alloc (.cells #[.int .i64 0, .slice none 0 0] 25)).alloc (.cells #[.int .i64 m, .slice none 0 0] 25) := ⟨_, rfl⟩
  have BW : Hid (Below w.heap.size w W) := by
    show Below _ _ _
    rw [hW]; exact ((((Below.refl _ _).alloc (Nat.le_refl _) _).alloc (by simp) _).alloc (by simp; omega) _)
  have SW : Hid (W.heap.size = w.heap.size + 3) := by show _ = _; rw [hW]; simp
  have G1 : Hid (Blk W (w.heap.size + 1) #[.int .i64 0, .slice none 0 0] 25) := by
    show Blk _ _ _ _; rw [hW]; exact (Blk.new2 _ _ _ _).alloc _
  have G2 : Hid (Blk W (w.heap.size + 1 + 1) #[.int .i64 m, .slice none 0 0] 25) := by
    show Blk _ _ _ _; rw [hW]; exact Blk.new3 _ _ _ _ _
  have HW : Hid (W = _) := hW
  clear hW
  have HC : Hid _ := toVoteS a c vs W (h.below BW.out) hn hl
  clear h hl
  go_enter Try.func148, Try.ntmps148
  go_wp2_with fail
  rw [← HW.out]
  refine Calls.mono HC.out ?_
  rintro e w3 ⟨rfl, ⟨gs, own⟩, row, b3⟩
  have F1 : Hid (Blk w3 (w.heap.size + 1) _ _) := G1.out.keep b3
  have F2 : Hid (Blk w3 (w.heap.size + 1 + 1) _ _) := G2.out.keep b3
  have B3 : Hid (Below w.heap.size w w3) := BW.out.trans (b3.mono BW.out.size)
  have O3 : Hid (CopyV w3 W.heap.size gs (bodies vs) ∧ RowV w3 W.heap.size vs.length) := ⟨own, row⟩
  have N3 : Hid (w.heap.size + 3 ≤ W.heap.size) := by have := SW.out; show _ ≤ _; omega
  clear b3 own row
  obtain ⟨i0, i1⟩ := F1.out.cells2
  obtain ⟨o0, o1⟩ := F2.out.cells2
  have fo := F2.out.frozen
  have fi := F1.out.frozen
  go_wp2
  refine bodyPost_ret (v := .agg #[.int .i64 m, .slice (some ⟨W.heap.size, 0, none⟩) vs.length vs.length]) (by simp [results, Try.results148, go_sem, i0, i1]) rfl ⟨W.heap.size, gs, rfl, BW.out.size, ?_, ?_, ?_⟩
  · have KK : KeepFrom (w.heap.size + 3) w3 _ := (((KeepFrom.refl (w.heap.size + 3) w3).setCell (p := ⟨w.heap.size + 1 + 1, 1, none⟩) (by show w.heap.size + 1 + 1 < _; omega) (.slice (some ⟨W.heap.size, 0, none⟩) vs.length vs.length)).setCell (p := ⟨w.heap.size + 1, 0, none⟩) (by show w.heap.size + 1 < _; omega) (.int .i64 m)).setCell (p := ⟨w.heap.size + 1, 1, none⟩) (by show w.heap.size + 1 < _; omega) (.slice (some ⟨W.heap.size, 0, none⟩) vs.length vs.length)
    exact O3.out.1.keep KK N3.out
  · have KK : KeepFrom (w.heap.size + 3) w3 _ := (((KeepFrom.refl (w.heap.size + 3) w3).setCell (p := ⟨w.heap.size + 1 + 1, 1, none⟩) (by show w.heap.size + 1 + 1 < _; omega) (.slice (some ⟨W.heap.size, 0, none⟩) vs.length vs.length)).setCell (p := ⟨w.heap.size + 1, 0, none⟩) (by show w.heap.size + 1 < _; omega) (.int .i64 m)).setCell (p := ⟨w.heap.size + 1, 1, none⟩) (by show w.heap.size + 1 < _; omega) (.slice (some ⟨W.heap.size, 0, none⟩) vs.length vs.length)
    exact O3.out.2.block (KK.2 _ N3.out)
  · have s2 : w.heap.size ≤ w.heap.size + 1 + 1 := by omega
    have s1 : w.heap.size ≤ w.heap.size + 1 := by omega
    exact ((B3.out.setCell s2 _).setCell s1 _).setCell s1 _

set_option maxRecDepth 100000 in
set_option maxHeartbeats 1000000 in
theorem eqAcc (m : Int) (a b : Option Addr) (c d : Nat) (vs us : List VM) (w : World) (h1 : SlV w a vs) (h2 : SlV w b us) (hb : bodies vs = bodies us) (hn : vs.length ≤ 2 ^ 40) (hl : VL0 vs) :
    Calls Try.prog 138 #[.agg #[.int .i64 m, .slice a vs.length c], .agg #[.int .i64 m, .slice b us.length d]] w fun e w' => e = .returned (.bool true) ∧ Below w.heap.size w w' := by
  obtain ⟨W, hW⟩ : ∃ W, W = (w.alloc (.cells #[.int .i64 m, .slice a vs.length c] 25)).alloc (.cells #[.int .i64 m, .slice b us.length d] 25) := ⟨_, rfl⟩
  have BW : Hid (Below w.heap.size w W) := by
    show Below _ _ _
    rw [hW]; exact ((Below.refl _ _).alloc (Nat.le_refl _) _).alloc (by simp) _
  have HW : Hid (W = _) := hW
  clear hW
  have HC : Hid _ := eqVoteS a b c d vs us W (h1.below BW.out) (h2.below BW.out) hb hn hl
  clear h1 h2 hb hl
  have em : (m != m) = false := by simp
  go_enter Try.func138, Try.ntmps138
  go_wp2_with fail
  rw [← HW.out]
  refine Calls.mono HC.out ?_
  rintro e w2 ⟨rfl, b2'⟩
  have B2 : Hid (Below w.heap.size w w2) := BW.out.trans (b2'.mono BW.out.size)
  clear b2'
  go_wp2_with fail
  go_ret
  exact ⟨rfl, B2.out⟩
end Go.Proofs.Ytfifiobcmdmefaa.Own
