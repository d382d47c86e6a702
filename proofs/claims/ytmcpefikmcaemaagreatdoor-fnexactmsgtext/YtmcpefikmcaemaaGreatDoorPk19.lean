/-
  Own texts, bundled: MsgTextN.
-/
import Derived.Test.YtmcpefikmcaemaaGreatDoorPk18
namespace Go.Proofs.YtmcpefikmcaemaaGreatDoor.Own
open Go.RowKit
set_option linter.unusedVariables false
set_option linter.unusedSimpArgs false

theorem entFn_cases (kind : Int) : (entFn kind = .func (.func 82) #[] #[] ∧ hasEnt kind = true) ∨ (entFn kind = .func (.func 83) #[] #[] ∧ hasEnt kind = true) ∨ (entFn kind = .nilFunc ∧ hasEnt kind = false) := by
  by_cases k3 : kind = 3 ∨ kind = 5
  · exact .inl ⟨by simp only [entFn, k3, if_true], hasEnt_iff.2 (by omega)⟩
  · by_cases k7 : kind = 7
    · exact .inr (.inl ⟨by rw [k7]; rfl, hasEnt_iff.2 (by omega)⟩)
    · exact .inr (.inr ⟨by simp only [entFn, k3, k7, if_false], by rw [← Bool.not_eq_true, hasEnt_iff]; omega⟩)
theorem coreText_ne {x : MM} (h : msgOk x = true) : coreText x ≠ [] := by
  have hk := msgOk_kind h
  have hw : (wordOf x.kind).data.toList ≠ [] := by
    rw [← ByteArray.toList_eq]
    intro e
    have := (word_list x.kind).1 e
    have k2 : isKind x.kind = true := by simp [isKind, hk]
    rw [k2] at this
    cases this
  have hh : headM x ≠ [] := by
    unfold headM
    intro e
    simp only [List.append_eq_nil_iff] at e
    exact hw e.1.1.1.1
  have hm : midM x ≠ [] := by
    unfold midM
    split
    · intro e; simp at e
    · exact hh
  have hv : ∀ j, votesTo (midM x) (bodies x.vs) j ≠ [] := by
    intro j
    induction j with
    | zero => exact hm
    | succ j ih => intro e; simp only [votesTo, List.append_eq_nil_iff] at e; exact ih e.1
  exact hv _

set_option maxRecDepth 100000 in
set_option maxHeartbeats 4000000 in
theorem implMsgText (x : MM) (w : World) (ht : Tab w) (h : AtM w x) (f : FitM x) (wf : WfM x) (hs : x.b.xs.length + x.b.ys.length ≤ 2 ^ 21) (hv : ∀ i, i < x.vs.length → (x.vs.getD i v0).b.xs.length + (x.vs.getD i v0).b.ys.length ≤ 2 ^ 21) :
    Calls Tryz.prog 10 #[.agg #[.int .i64 x.kind, .int .i64 x.src, .int .i64 x.dst, .int .i64 x.bal, .int .i64 x.slot, .bool x.b.n, .int .i64 x.b.p, .int .i64 x.b.q, .slice x.a1 x.b.xs.length x.c1, .slice x.a2 x.b.ys.length x.c2, .int .i64 x.b.v, .int .i64 x.b.k, .slice x.a x.vs.length x.c]] w fun e w' => e = .returned (.string (str (msgText x))) ∧ Below w.heap.size w w' := by
  obtain ⟨V, hV⟩ : ∃ V, V = w.alloc (.cells #[.int .i64 x.kind, .int .i64 x.src, .int .i64 x.dst, .int .i64 x.bal, .int .i64 x.slot, .bool x.b.n, .int .i64 x.b.p, .int .i64 x.b.q, .slice x.a1 x.b.xs.length x.c1, .slice x.a2 x.b.ys.length x.c2, .int .i64 x.b.v, .int .i64 x.b.k, .slice x.a x.vs.length x.c] 33) := ⟨_, rfl⟩
  have BV : Hid (Below w.heap.size w V) := by show Below _ _ _; rw [hV]; exact (Below.refl _ _).alloc (Nat.le_refl _) _
  have GV : Hid (Blk V w.heap.size #[.int .i64 x.kind, .int .i64 x.src, .int .i64 x.dst, .int .i64 x.bal, .int .i64 x.slot, .bool x.b.n, .int .i64 x.b.p, .int .i64 x.b.q, .slice x.a1 x.b.xs.length x.c1, .slice x.a2 x.b.ys.length x.c2, .int .i64 x.b.v, .int .i64 x.b.k, .slice x.a x.vs.length x.c] 33) := by show Blk _ _ _ _; rw [hV]; exact Blk.new _ _ _
  have HV : Hid (V = _) := hV
  clear hV
  have CO : Hid (Calls Tryz.prog 12 #[.agg #[.int .i64 x.kind, .int .i64 x.src, .int .i64 x.dst, .int .i64 x.bal, .int .i64 x.slot, .bool x.b.n, .int .i64 x.b.p, .int .i64 x.b.q, .slice x.a1 x.b.xs.length x.c1, .slice x.a2 x.b.ys.length x.c2, .int .i64 x.b.v, .int .i64 x.b.k, .slice x.a x.vs.length x.c]] V fun e w' => e = .returned (.bool (msgOk x)) ∧ Below V.heap.size V w') := implMsgOk x V (h.below BV.out) f
  cases hok : msgOk x with
  | false =>
    have ET : Hid (msgText x = []) := by show _ = _; simp [msgText, hok]
    rw [ET.out]
    rw [hok] at CO
    clear h f wf hs hv hok ht
    go_enter Tryz.func10, Tryz.ntmps10
    go_wp2_with fail
    rw [← HV.out]
    refine Calls.mono CO.out ?_
    rintro e w1 ⟨rfl, b1⟩
    have B1 : Hid (Below w.heap.size w w1) := BV.out.trans (b1.mono BV.out.size)
    clear b1
    go_wp2_with fail
    go_ret
    exact ⟨rfl, B1.out⟩
  | true =>
    have ET : Hid (msgText x = coreText x) := by show _ = _; simp [msgText, hok]
    have NE := coreText_ne hok
    have hn : x.vs.length ≤ 40 := by rw [← bodies_len]; exact (msgOk_votes hok).1
    rw [ET.out]
    rw [hok] at CO
    have CM : Hid (∀ (U W : World), Below V.heap.size V U → W = U.alloc (.cells #[.pointer none, .slice none 0 0] 90) → Calls Tryz.prog 30 #[.pointer (some ⟨U.heap.size, 0, none⟩), .agg #[.int .i64 x.kind, .int .i64 x.src, .int .i64 x.dst, .int .i64 x.bal, .int .i64 x.slot, .bool x.b.n, .int .i64 x.b.p, .int .i64 x.b.q, .slice x.a1 x.b.xs.length x.c1, .slice x.a2 x.b.ys.length x.c2, .int .i64 x.b.v, .int .i64 x.b.k, .slice x.a x.vs.length x.c]] W fun e w' => e = .returned (.tuple #[]) ∧ Bd 90 U.heap.size U.heap.size (coreText x) w' ∧ Below U.heap.size W w') := fun U W hU hW => by
      have bW : Below U.heap.size U W := by rw [hW]; exact (Below.refl _ _).alloc (Nat.le_refl _) _
      have dW : Bd 90 U.heap.size U.heap.size [] W := by rw [hW]; exact Lib.fresh_isBuilder _ _ _
      have bU : Below w.heap.size w U := BV.out.trans (hU.mono BV.out.size)
      have bb : ∀ w', Below U.heap.size W w' → Below w.heap.size w w' := fun w' h => bU.trans ((bW.trans h).mono bU.size)
      exact implMessageF (entFn x.kind) 90 headsMsg U.heap.size U.heap.size x W dW wf (fun w' h => tab_below ht ht (bb w' h) (Nat.le_refl _)) (fun w' h' => h.below (bb w' h')) hs hv hn bW.size rfl (entFn_cases x.kind)
    have CS : Hid (∀ (B : Nat) (w' : World), Bd 90 B B (coreText x) w' → Calls Tryz.prog 31 #[.pointer (some ⟨B, 0, none⟩)] w' fun e w'' => e = .returned (.string (str (coreText x))) ∧ Below B w' w'') := fun B w' h => stringG _ B B _ w' h NE
    clear h f wf hs hv hok ht NE hn
    generalize coreText x = FIN at CM CS ⊢
    go_enter Tryz.func10, Tryz.ntmps10
    go_wp2_with fail
    rw [← HV.out]
    refine Calls.mono CO.out ?_
    rintro e U ⟨rfl, b1⟩
    have BU : Hid (Below V.heap.size V U) := b1
    have GU : Hid (Blk U w.heap.size _ _) := GV.out.keep b1
    clear b1
    obtain ⟨W, hW⟩ : ∃ W, W = U.alloc (.cells #[.pointer none, .slice none 0 0] 90) := ⟨_, rfl⟩
    have BW : Hid (Below U.heap.size U W) := by show Below _ _ _; rw [hW]; exact (Below.refl _ _).alloc (Nat.le_refl _) _
    have GW : Hid (Blk W w.heap.size _ _) := GU.out.keep BW.out
    have CMW : Hid _ := CM.out U W BU.out hW
    have HW : Hid (W = _) := hW
    clear hW
    obtain ⟨q0, q1, q2, q3, q4, q5, q6, q7, q8, q9, q10, q11, q12⟩ := GW.out.cells13
    go_upto_region 4 with fail
    rw [← HW.out]
    go_wp2_with fail
    refine Calls.mono CMW.out ?_
    rintro e w1 ⟨rfl, d1, b1⟩
    have D1 : Hid (Bd _ _ _ _ w1) := d1
    have B1 : Hid (Below U.heap.size U w1) := BW.out.trans b1
    clear d1 b1 q0 q1 q2 q3 q4 q5 q6 q7 q8 q9 q10 q11 q12
    go_wp2_with fail
    refine (CS.out _ w1 D1.out).mono ?_
    rintro e w2 ⟨rfl, b2⟩
    have B2 : Hid (Below w.heap.size w w2) := BV.out.trans ((BU.out.trans ((B1.out.trans b2).mono BU.out.size)).mono BV.out.size)
    clear b2
    go_wp2_with fail
    go_ret
    exact ⟨rfl, B2.out⟩
end Go.Proofs.YtmcpefikmcaemaaGreatDoor.Own
