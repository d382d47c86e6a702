/-
  Own text: what impl.MsgEntry does.
-/
import Derived.Test.YtmcpefikmcaemaaDoorEntTextE
import Derived.Deep.Cut
namespace Go.Proofs.YtmcpefikmcaemaaDoor.Own
open Go.RowKit
set_option linter.unusedVariables false
set_option linter.unusedSimpArgs false

set_option maxRecDepth 100000 in
set_option maxHeartbeats 2000000 in
theorem implMsgEntry (n : Bool) (p q : Int) (a1 a2 : Option Addr) (c1 c2 : Nat) (xs ys : List P2) (v k : Int) (w : World) (ht : Tab w) (h1 : Sl w a1 xs) (h2 : Sl w a2 ys) (hf : WfE ⟨n, p, q, xs, ys, v, k⟩) (lx : xs.length ≤ 2 ^ 30) (ly : ys.length ≤ 2 ^ 30) :
    Calls Tryd.prog 14 #[.agg #[.bool n, .int .i64 p, .int .i64 q, .slice a1 xs.length c1, .slice a2 ys.length c2, .int .i64 v, .int .i64 k]] w fun e w' => e = .returned (.string (str (entText ⟨n, p, q, xs, ys, v, k⟩))) ∧ Below w.heap.size w w' := by
  obtain ⟨V, hV⟩ : ∃ V, V = w.alloc (.cells #[.bool n, .int .i64 p, .int .i64 q, .slice a1 xs.length c1, .slice a2 ys.length c2, .int .i64 v, .int .i64 k] 30) := ⟨_, rfl⟩
  have bV : Below w.heap.size w V := by rw [hV]; exact (Below.refl _ _).alloc (Nat.le_refl _) _
  have sV : V.heap.size = w.heap.size + 1 := by rw [hV]; simp
  have gV : Blk V w.heap.size #[.bool n, .int .i64 p, .int .i64 q, .slice a1 xs.length c1, .slice a2 ys.length c2, .int .i64 v, .int .i64 k] 30 := by rw [hV]; exact Blk.new _ _ _
  obtain ⟨W, hW⟩ : ∃ W, W = V.alloc (.cells #[.pointer none, .slice none 0 0] 82) := ⟨_, rfl⟩
  have bW : Below V.heap.size V W := by rw [hW]; exact (Below.refl _ _).alloc (Nat.le_refl _) _
  have dW : Bd 82 V.heap.size V.heap.size [] W := by rw [hW]; exact Lib.fresh_isBuilder _ _ _
  have BW : Hid (Below w.heap.size w W) := bV.trans (bW.mono bV.size)
  have GW : Hid (Blk W w.heap.size _ _) := gV.keep bW
  have NE := entText_ne ⟨n, p, q, xs, ys, v, k⟩
  have CE : Hid (Calls Tryd.prog 42 #[.pointer (some ⟨V.heap.size, 0, none⟩), .agg #[.bool n, .int .i64 p, .int .i64 q, .slice a1 xs.length c1, .slice a2 ys.length c2, .int .i64 v, .int .i64 k]] W fun e w' => e = .returned (.tuple #[]) ∧ Bd 82 V.heap.size V.heap.size (entText ⟨n, p, q, xs, ys, v, k⟩) w' ∧ Below V.heap.size W w') := by
    cases n with
    | true =>
      refine (implEntryNone 82 headsEntry V.heap.size V.heap.size [] p q a1 a2 xs.length ys.length c1 c2 v k W dW (by simp) bW.size).mono ?_
      rintro e w' ⟨rfl, d, b, _⟩
      exact ⟨rfl, d, b⟩
    | false =>
      have bb : ∀ w', Below V.heap.size W w' → Below w.heap.size w w' := fun w' h => bV.trans ((bW.trans h).mono bV.size)
      refine (implEntryRun 82 headsEntry V.heap.size V.heap.size [] p q a1 a2 c1 c2 xs ys v k W dW hf (fun w' h => tab_below ht ht (bb w' h) (Nat.le_refl _)) (fun w' h => h1.below (bb w' h)) (fun w' h => h2.below (bb w' h)) lx ly (by simp) bW.size).mono ?_
      rintro e w' ⟨rfl, d, b, _⟩
      exact ⟨rfl, d, b⟩
  have CS : Hid (∀ w', Bd 82 V.heap.size V.heap.size (entText ⟨n, p, q, xs, ys, v, k⟩) w' → Calls Tryd.prog 43 #[.pointer (some ⟨V.heap.size, 0, none⟩)] w' fun e w'' => e = .returned (.string (str (entText ⟨n, p, q, xs, ys, v, k⟩))) ∧ Below V.heap.size w' w'') := fun w' h => stringG _ V.heap.size V.heap.size _ w' h NE
  have BV : Hid (Below w.heap.size w V) := bV
  have SWV : Hid (V.heap.size ≤ W.heap.size) := bW.size
  have SV : Hid (V.heap.size = w.heap.size + 1) := sV
  have HV : Hid (V = _) := hV
  have HW : Hid (W = _) := hW
  have VW : Hid (Below V.heap.size V W) := bW
  clear hV hW bV sV gV bW dW NE h1 h2 hf ht
  generalize entText ⟨n, p, q, xs, ys, v, k⟩ = FIN at CE CS ⊢
  obtain ⟨q0, q1, q2, q3, q4, q5, q6⟩ := GW.out.cells7
  go_enter Tryd.func14, Tryd.ntmps14
  go_upto_region 2 with fail
  rw [← HV.out, ← HW.out, ← SV.out]
  go_wp2_with fail
  refine Calls.mono CE.out ?_
  rintro e w1 ⟨rfl, d1, b1⟩
  have D1 : Hid (Bd _ _ _ _ w1) := d1
  have B1 : Hid (Below V.heap.size V w1) := VW.out.trans b1
  clear d1 b1 q0 q1 q2 q3 q4 q5 q6
  go_wp2_with fail
  refine (CS.out w1 D1.out).mono ?_
  rintro e w2 ⟨rfl, b2⟩
  have B2 : Hid (Below w.heap.size w w2) := BV.out.trans ((B1.out.trans b2).mono BV.out.size)
  clear b2
  go_wp2_with fail
  go_ret
  exact ⟨rfl, B2.out⟩
end Go.Proofs.YtmcpefikmcaemaaDoor.Own
