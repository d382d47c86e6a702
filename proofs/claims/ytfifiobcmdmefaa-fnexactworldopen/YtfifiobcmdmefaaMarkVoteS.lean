/-
  Own text: what laws.markVoteS does with votes whose memory is one's own.
-/
import Derived.Test.YtfifiobcmdmefaaMarkVote
namespace Go.Proofs.Ytfifiobcmdmefaa.Own
open Go.RowKit
set_option linter.unusedVariables false
set_option linter.unusedSimpArgs false

theorem stepsV_mono (vs : List VM) {i k : Nat} (h : i ≤ k) : stepsV vs i ≤ stepsV vs k := by
  induction k with
  | zero => obtain rfl : i = 0 := by omega
            exact Nat.le_refl _
  | succ k ih =>
    by_cases e : i = k + 1
    · subst e; exact Nat.le_refl _
    · have := ih (by omega); simp only [stepsV]; omega
/-- The votes' own blocks alone may have turned. -/
structure ManyV (g : Nat) (vs : List VM) (w w' : World) : Prop where
  size : w'.heap.size = w.heap.size
  os : w'.os = w.os
  tape : w'.tape = w.tape
  output : w'.output = w.output
  block : ∀ b, b ≠ g → (∀ i, i < vs.length → blk1 (vs.getD i v0) ≠ some b ∧ blk2 (vs.getD i v0) ≠ some b) → w'.heap[b]? = w.heap[b]?
theorem ManyV.refl (g : Nat) (vs : List VM) (w : World) : ManyV g vs w w := ⟨rfl, rfl, rfl, rfl, fun _ _ _ => rfl⟩
theorem ManyV.step {g j : Nat} {vs : List VM} {a b c : World} (h : ManyV g vs a b) (k : OneV g j (vs.getD j v0) b c) (hj : j < vs.length) : ManyV g vs a c :=
  ⟨k.size.trans h.size, k.os.trans h.os, k.tape.trans h.tape, k.output.trans h.output, fun n h1 h2 => (k.block n h1 (h2 j hj).1 (h2 j hj).2).trans (h.block n h1 h2)⟩

set_option maxRecDepth 100000 in
set_option maxHeartbeats 4000000 in
theorem markVoteS (g c B : Nat) (vs : List VM) (k0 : Int) (w : World) (h : OwnVs w B g vs) (sep : Sep g vs) (hn : vs.length ≤ 2 ^ 30) (hk0 : 0 ≤ k0) (hk1 : k0 ≤ 2 ^ 30) (hs : stepsV vs vs.length ≤ 2 ^ 30) :
    Calls Try.prog 112 #[.slice (some ⟨g, 0, none⟩) vs.length c, .int .i64 k0] w fun e w' => e = .returned (.int .i64 (k0 + (stepsV vs vs.length : Nat))) ∧ OwnVs w' B g (mixV k0 vs vs.length) ∧ ManyV g vs w w' := by
  have SP : Hid (Sep g vs) := sep
  have HS : Hid (stepsV vs vs.length ≤ 2 ^ 30) := hs
  have H0 : Hid (OwnVs w B g (mixV k0 vs 0)) := by show OwnVs _ _ _ _; rw [mixV_zero]; exact h
  clear h sep hs
  go_enter Try.func112, Try.ntmps112
  go_wp2_with fail
  go_loopw [1, 5] (fun q i wr => ∃ j : Nat, j ≤ vs.length ∧ i = .int .i64 j ∧ q = .int .i64 (k0 + (stepsV vs j : Nat)) ∧ Hid (OwnVs wr B g (mixV k0 vs j)) ∧ Hid (ManyV g vs w wr)) (fun _ i _ => vs.length - (intOf i).toNat)
  case atStart => exact ⟨0, Nat.zero_le _, rfl, by simp [stepsV], H0.out, ManyV.refl _ _ _⟩
  case round =>
    obtain ⟨j, hj, rfl, rfl, OV, MV⟩ := hrel
    by_cases hlt : j < vs.length
    · have hji : (j : Int) < (vs.length : Int) := by omega
      have hjm : j < (mixV k0 vs j).length := by rw [mixV_len]; exact hlt
      have mj : (mixV k0 vs j).getD j v0 = vs.getD j v0 := by rw [mixV_at _ _ _ hlt, if_neg (by omega)]
      have cj := OV.out.cell j hjm
      obtain ⟨o1, o2⟩ := OV.out.own j hjm
      rw [mj] at cj o1 o2
      obtain ⟨x, hx⟩ : ∃ x, x = vs.getD j v0 := ⟨_, rfl⟩
      have s1 := SP.out.one j hlt
      have s2 := SP.out.two j hlt
      have st := stepsV_mono vs (show j + 1 ≤ vs.length by omega)
      have HSn := HS.out
      have NX : Hid (stepsV vs (j + 1) = stepsV vs j + (6 + 2 * x.b.xs.length + 2 * x.b.ys.length)) := by show _ = _; rw [hx]; rfl
      have STEP : Hid (∀ w', OneV g j x wr w' → C8 w' g (j * 8) (markedV (k0 + (stepsV vs j : Nat)) x) → OwnB w' B x.a1 (markedV (k0 + (stepsV vs j : Nat)) x).b.xs → OwnB w' B x.a2 (markedV (k0 + (stepsV vs j : Nat)) x).b.ys → OwnVs w' B g (mixV k0 vs (j + 1)) ∧ ManyV g vs w w') := fun w' a b c d => by
        rw [hx] at a b c d
        exact ⟨mv_step OV.out SP.out hlt a b c d, MV.out.step a hlt⟩
      rw [← hx] at cj o1 o2 s1 s2
      have xl : x.b.xs.length ≤ 2 ^ 30 ∧ x.b.ys.length ≤ 2 ^ 30 ∧ stepsV vs j ≤ 2 ^ 30 := by have := NX.out; omega
      clear hx mj hjm HSn st
      have FR : Hid (∀ o, wr.frozen? ⟨g, o, none⟩ = false) := OV.out.fr
      obtain ⟨k, hk⟩ : ∃ k : Int, k = k0 + (stepsV vs j : Nat) := ⟨_, rfl⟩
      have kb0 : 0 ≤ k := by omega
      have kb1 : k ≤ 2 ^ 31 := by omega
      rw [← hk] at STEP ⊢
      have HK : Hid (k = k0 + (stepsV vs j : Nat)) := hk
      obtain ⟨xl1, xl2, _⟩ := xl
      clear hk
      obtain ⟨d0, d1, d2, d3, d4, d5, d6, d7⟩ := cj
      obtain ⟨X, hX⟩ : ∃ X, X = (((wr.setCell ⟨g, j * 8, none⟩ (.int .i64 k)).setCell ⟨g, j * 8 + 1, none⟩ (.bool ((k + 1) % 3 == 0))).setCell ⟨g, j * 8 + 2, none⟩ (.int .i64 (k + 1 + 1))).setCell ⟨g, j * 8 + 3, none⟩ (.int .i64 (k + 1 + 1 + 1)) := ⟨_, rfl⟩
      have P := put4 (.int .i64 k) (.bool ((k + 1) % 3 == 0)) (.int .i64 (k + 1 + 1)) (.int .i64 (k + 1 + 1 + 1)) d0 d1 d2 d3
      rw [← hX] at P
      have OX : Hid (OneV g j x wr X) := by
        show OneV _ _ _ _ _
        rw [hX]
        exact (((OneV.set g j x wr _ (by omega) _).trans (OneV.set g j x _ _ (by omega) _)).trans (OneV.set g j x _ _ (by omega) _)).trans (OneV.set g j x _ _ (by omega) _)
      have PX : Hid (X.cell? ⟨g, j * 8, none⟩ = some (.int .i64 k) ∧ X.cell? ⟨g, j * 8 + 1, none⟩ = some (.bool ((k + 1) % 3 == 0)) ∧ X.cell? ⟨g, j * 8 + 2, none⟩ = some (.int .i64 (k + 1 + 1)) ∧ X.cell? ⟨g, j * 8 + 3, none⟩ = some (.int .i64 (k + 1 + 1 + 1))) := ⟨P.1, P.2.1, P.2.2.1, P.2.2.2.1⟩
      have R : Hid (X.cell? ⟨g, j * 8 + 4, none⟩ = some (.slice x.a1 x.b.xs.length x.c1) ∧ X.cell? ⟨g, j * 8 + 5, none⟩ = some (.slice x.a2 x.b.ys.length x.c2) ∧ X.cell? ⟨g, j * 8 + 6, none⟩ = some (.int .i64 x.b.v) ∧ X.cell? ⟨g, j * 8 + 7, none⟩ = some (.int .i64 x.b.k)) := by
        have e := P.2.2.2.2
        exact ⟨by rw [e _ (by omega)]; exact d4, by rw [e _ (by omega)]; exact d5, by rw [e _ (by omega)]; exact d6, by rw [e _ (by omega)]; exact d7⟩
      have ob : ∀ b, b ≠ g → X.heap[b]? = wr.heap[b]? := fun b hb => by
        rw [hX]
        rw [Below.heap_setCell _ _ _ _ hb, Below.heap_setCell _ _ _ _ hb, Below.heap_setCell _ _ _ _ hb, Below.heap_setCell _ _ _ _ hb]
      have A1 : Hid (OwnB X B x.a1 x.b.xs) := o1.blk OX.out.size fun b hb => ob b fun e => s1.1 (by rw [← e]; exact hb)
      have A2 : Hid (OwnB X B x.a2 x.b.ys) := o2.blk OX.out.size fun b hb => ob b fun e => s1.2 (by rw [← e]; exact hb)
      have S1 : Hid (blk1 x ≠ some g ∧ blk2 x ≠ some g) := s1
      have S2 : Hid (∀ b, blk1 x = some b → blk2 x ≠ some b) := s2
      have HX : Hid (X = _) := hX
      have FF := FR.out
      clear hX P ob o1 o2 s1 s2
      go_wp2_with fail
      rw [← HX.out]
      refine (markReadB x.a1 x.c1 x.b.xs.length B x.b.xs (k + 1 + 1 + 1 + 1) X A1.out rfl (by omega) (by omega) (by omega)).mono ?_
      rintro e w1 ⟨rfl, p1, t1⟩
      have V1 : Hid (OneV g j x X w1) := OneV.of1 t1 S1.out.1
      have B1 : Hid (OwnB w1 B x.a1 (marks (k + 1 + 1 + 1 + 1) x.b.xs.length)) := p1
      have B2 : Hid (OwnB w1 B x.a2 x.b.ys) := A2.out.blk t1.size fun b hb => t1.heap fun e => S2.out b e hb
      have C1 : Hid (∀ o, w1.cell? ⟨g, o, none⟩ = X.cell? ⟨g, o, none⟩) := fun o => World.cell?_of_block (w := X) (a := ⟨g, o, none⟩) (t1.heap S1.out.1)
      have G5 := (C1.out (j * 8 + 5)).trans R.out.2.1
      clear p1 t1
      go_wp2_with fail
      refine (markPutB x.a2 x.c2 x.b.ys.length B x.b.ys (k + 1 + 1 + 1 + 1 + 2 * x.b.xs.length) w1 B2.out rfl (by omega) (by omega) (by omega)).mono ?_
      rintro e w2 ⟨rfl, p2, t2⟩
      have V2 : Hid (OneV g j x wr w2) := (OX.out.trans V1.out).trans (OneV.of2 t2 S1.out.2)
      have D2 : Hid (OwnB w2 B x.a2 (marks (k + 1 + 1 + 1 + 1 + 2 * x.b.xs.length) x.b.ys.length)) := p2
      have D1 : Hid (OwnB w2 B x.a1 (marks (k + 1 + 1 + 1 + 1) x.b.xs.length)) := B1.out.blk t2.size fun b hb => t2.heap fun e => S2.out b (by rw [marks_length] at hb; exact hb) e
      have C2 : Hid (∀ o, w2.cell? ⟨g, o, none⟩ = X.cell? ⟨g, o, none⟩) := fun o => (World.cell?_of_block (w := w1) (a := ⟨g, o, none⟩) (t2.heap S1.out.2)).trans (C1.out o)
      have F2 : ∀ o, w2.frozen? ⟨g, o, none⟩ = false := fun o => (V2.out.fr o).trans (FF o)
      have G6 := (C2.out (j * 8 + 6)).trans R.out.2.2.1
      have G7 := (C2.out (j * 8 + 7)).trans R.out.2.2.2
      clear p2 t2 G5
      go_wp2_with fail
      have e1 : j * 8 + 1 + 3 + 2 = j * 8 + 6 := by omega
      have e2 : j * 8 + 1 + 3 + 3 = j * 8 + 7 := by omega
      simp only [e1, e2]
      obtain ⟨Y, hY⟩ : ∃ Y, Y = (w2.setCell ⟨g, j * 8 + 6, none⟩ (.int .i64 (k + 1 + 1 + 1 + 1 + 2 * x.b.xs.length + 2 * x.b.ys.length))).setCell ⟨g, j * 8 + 7, none⟩ (.int .i64 (k + 1 + 1 + 1 + 1 + 2 * x.b.xs.length + 2 * x.b.ys.length + 1)) := ⟨_, rfl⟩
      rw [← hY]
      have VY : OneV g j x w2 Y := by
        rw [hY]
        exact (OneV.set g j x w2 _ (by omega) _).trans (OneV.set g j x _ _ (by omega) _)
      have yb : ∀ b, b ≠ g → Y.heap[b]? = w2.heap[b]? := fun b hb => by
        rw [hY, Below.heap_setCell _ _ _ _ hb, Below.heap_setCell _ _ _ _ hb]
      have yo : ∀ o, o ≠ j * 8 + 6 → o ≠ j * 8 + 7 → Y.cell? ⟨g, o, none⟩ = X.cell? ⟨g, o, none⟩ := fun o h6 h7 => by
        rw [hY, setCell_cell_other _ _ _ _ _ (fun e => h7 e.symm), setCell_cell_other _ _ _ _ _ (fun e => h6 e.symm)]
        exact C2.out o
      have y6 : Y.cell? ⟨g, j * 8 + 6, none⟩ = some (.int .i64 (k + 1 + 1 + 1 + 1 + 2 * x.b.xs.length + 2 * x.b.ys.length)) := by
        rw [hY, setCell_cell_other _ _ _ _ _ (by omega)]
        exact setCell_cell_same _ _ _ _ _ G6
      have y7 : Y.cell? ⟨g, j * 8 + 7, none⟩ = some (.int .i64 (k + 1 + 1 + 1 + 1 + 2 * x.b.xs.length + 2 * x.b.ys.length + 1)) := by
        rw [hY]
        exact setCell_cell_same _ _ _ _ (.int .i64 x.b.k) (by rw [setCell_cell_other _ _ _ _ _ (by omega)]; exact G7)
      clear hY
      have k4 : k + 4 = k + 1 + 1 + 1 + 1 := by omega
      have CY : C8 Y g (j * 8) (markedV k x) := by
        refine ⟨?_, ?_, ?_, ?_, ?_, ?_, ?_, ?_⟩
        · rw [yo _ (by omega) (by omega)]; exact PX.out.1
        · rw [yo _ (by omega) (by omega)]; exact PX.out.2.1
        · rw [yo _ (by omega) (by omega), PX.out.2.2.1]; simp only [markedV]; congr 2; omega
        · rw [yo _ (by omega) (by omega), PX.out.2.2.2]; simp only [markedV]; congr 2; omega
        · rw [yo _ (by omega) (by omega), R.out.1]; simp only [markedV, marks_length]
        · rw [yo _ (by omega) (by omega), R.out.2.1]; simp only [markedV, marks_length]
        · rw [y6]; simp only [markedV]; congr 2; omega
        · rw [y7]; simp only [markedV]; congr 2; omega
      have Z := STEP.out Y (V2.out.trans VY) CY
        (by simp only [markedV]; rw [k4]
            exact D1.out.blk VY.size fun b hb => yb b fun e => S1.out.1 (by rw [marks_length] at hb; rw [← e]; exact hb))
        (by simp only [markedV]; rw [k4]
            exact D2.out.blk VY.size fun b hb => yb b fun e => S1.out.2 (by rw [marks_length] at hb; rw [← e]; exact hb))
      refine ⟨⟨j + 1, by omega, by go_num, ?_, Z.1, Z.2⟩, ?_⟩
      · have := NX.out; have := HK.out
        congr 1; omega
      · simp only [intOf]; omega
    · have hji : ¬ (j : Int) < (vs.length : Int) := by omega
      obtain rfl : j = vs.length := by omega
      go_wp2_with fail
      go_ret
      exact ⟨rfl, OV.out, MV.out⟩
end Go.Proofs.Ytfifiobcmdmefaa.Own
