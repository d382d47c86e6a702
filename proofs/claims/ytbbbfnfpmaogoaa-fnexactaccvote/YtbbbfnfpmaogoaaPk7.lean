/-
  Own texts, bundled: MarkVoteS, HeldVoteS, MarkVote0, EntOps, EqVote, OwnR.
-/
import Derived.Test.YtbbbfnfpmaogoaaPk3
import Derived.Test.YtbbbfnfpmaogoaaPk4
import Derived.Test.YtbbbfnfpmaogoaaPk2
import Derived.BigQuiet
import Derived.Lib.QuietBelow
import Derived.Deep.Cut
import Derived.Test.YtbbbfnfpmaogoaaPk5
namespace Go.Proofs.Ytbbbfnfpmaogoaa.Own
open Go.RowKit
set_option linter.unusedVariables false
set_option linter.unusedSimpArgs false

theorem stepsV_mono (vs : List VM) {i k : Nat} (h : i ≤ k) : stepsV vs i ≤ stepsV vs k := by
  induction k with
  | zero => obtain rfl : i = 0 := by omega
            exact Nat.le_refl _
  | succ k ih =>
    by_cases e : i = k + 1
    · subst e; exact Nat.le_refl _
    · have := ih (by omega); simp only [stepsV]; omega
/-- The votes' own blocks alone may have turned. -/
structure ManyV (g : Nat) (vs : List VM) (w w' : World) : Prop where
  size : w'.heap.size = w.heap.size
  os : w'.os = w.os
  tape : w'.tape = w.tape
  output : w'.output = w.output
  block : ∀ b, b ≠ g → (∀ i, i < vs.length → blk1 (vs.getD i v0) ≠ some b ∧ blk2 (vs.getD i v0) ≠ some b) → w'.heap[b]? = w.heap[b]?
theorem ManyV.refl (g : Nat) (vs : List VM) (w : World) : ManyV g vs w w := ⟨rfl, rfl, rfl, rfl, fun _ _ _ => rfl⟩
theorem ManyV.step {g j : Nat} {vs : List VM} {a b c : World} (h : ManyV g vs a b) (k : OneV g j (vs.getD j v0) b c) (hj : j < vs.length) : ManyV g vs a c :=
  ⟨k.size.trans h.size, k.os.trans h.os, k.tape.trans h.tape, k.output.trans h.output, fun n h1 h2 => (k.block n h1 (h2 j hj).1 (h2 j hj).2).trans (h.block n h1 h2)⟩

set_option maxRecDepth 100000 in
set_option maxHeartbeats 4000000 in
theorem markVoteS (g c B : Nat) (vs : List VM) (k0 : Int) (w : World) (h : OwnVs w B g vs) (sep : Sep g vs) (hn : vs.length ≤ 2 ^ 30) (hk0 : 0 ≤ k0) (hk1 : k0 ≤ 2 ^ 30) (hs : stepsV vs vs.length ≤ 2 ^ 30) :
    Calls Try.prog 39 #[.slice (some ⟨g, 0, none⟩) vs.length c, .int .i64 k0] w fun e w' => e = .returned (.int .i64 (k0 + (stepsV vs vs.length : Nat))) ∧ OwnVs w' B g (mixV k0 vs vs.length) ∧ ManyV g vs w w' := by
  have SP : Hid (Sep g vs) := sep
  have HS : Hid (stepsV vs vs.length ≤ 2 ^ 30) := hs
  have H0 : Hid (OwnVs w B g (mixV k0 vs 0)) := by show OwnVs _ _ _ _; rw [mixV_zero]; exact h
  clear h sep hs
  go_enter Try.func39, Try.ntmps39
  go_wp2_with fail
  go_loopw [1, 5] (fun q i wr => ∃ j : Nat, j ≤ vs.length ∧ i = .int .i64 j ∧ q = .int .i64 (k0 + (stepsV vs j : Nat)) ∧ Hid (OwnVs wr B g (mixV k0 vs j)) ∧ Hid (ManyV g vs w wr)) (fun _ i _ => vs.length - (intOf i).toNat)
  case atStart => exact ⟨0, Nat.zero_le _, rfl, by simp [stepsV], H0.out, ManyV.refl _ _ _⟩
  case round =>
    obtain ⟨j, hj, rfl, rfl, OV, MV⟩ := hrel
    by_cases hlt : j < vs.length
    · have hji : (j : Int) < (vs.length : Int) := by omega
      have hjm : j < (mixV k0 vs j).length := by rw [mixV_len]; exact hlt
      have mj : (mixV k0 vs j).getD j v0 = vs.getD j v0 := by rw [mixV_at _ _ _ hlt, if_neg (by omega)]
      have cj := OV.out.cell j hjm
      obtain ⟨o1, o2⟩ := OV.out.own j hjm
      rw [mj] at cj o1 o2
      obtain ⟨x, hx⟩ : ∃ x, x = vs.getD j v0 := ⟨_, rfl⟩
      have s1 := SP.out.one j hlt
      have s2 := SP.out.two j hlt
      have st := stepsV_mono vs (show j + 1 ≤ vs.length by omega)
      have HSn := HS.out
      have NX : Hid (stepsV vs (j + 1) = stepsV vs j + (6 + 2 * x.b.xs.length + 2 * x.b.ys.length)) := by show _ = _; rw [hx]; rfl
      have STEP : Hid (∀ w', OneV g j x wr w' → C8 w' g (j * 8) (markedV (k0 + (stepsV vs j : Nat)) x) → OwnB w' B x.a1 (markedV (k0 + (stepsV vs j : Nat)) x).b.xs → OwnB w' B x.a2 (markedV (k0 + (stepsV vs j : Nat)) x).b.ys → OwnVs w' B g (mixV k0 vs (j + 1)) ∧ ManyV g vs w w') := fun w' a b c d => by
        rw [hx] at a b c d
        exact ⟨mv_step OV.out SP.out hlt a b c d, MV.out.step a hlt⟩
      rw [← hx] at cj o1 o2 s1 s2
      have xl : x.b.xs.length ≤ 2 ^ 30 ∧ x.b.ys.length ≤ 2 ^ 30 ∧ stepsV vs j ≤ 2 ^ 30 := by have := NX.out; omega
      clear hx mj hjm HSn st
      have FR : Hid (∀ o, wr.frozen? ⟨g, o, none⟩ = false) := OV.out.fr
      obtain ⟨k, hk⟩ : ∃ k : Int, k = k0 + (stepsV vs j : Nat) := ⟨_, rfl⟩
      have kb0 : 0 ≤ k := by omega
      have kb1 : k ≤ 2 ^ 31 := by omega
      rw [← hk] at STEP ⊢
      have HK : Hid (k = k0 + (stepsV vs j : Nat)) := hk
      obtain ⟨xl1, xl2, _⟩ := xl
      clear hk
      obtain ⟨d0, d1, d2, d3, d4, d5, d6, d7⟩ := cj
      obtain ⟨X, hX⟩ : ∃ X, X = (((wr.setCell ⟨g, j * 8, none⟩ (.int .i64 k)).setCell ⟨g, j * 8 + 1, none⟩ (.bool ((k + 1) % 3 == 0))).setCell ⟨g, j * 8 + 2, none⟩ (.int .i64 (k + 1 + 1))).setCell ⟨g, j * 8 + 3, none⟩ (.int .i64 (k + 1 + 1 + 1)) := ⟨_, rfl⟩
      have P := put4 (.int .i64 k) (.bool ((k + 1) % 3 == 0)) (.int .i64 (k + 1 + 1)) (.int .i64 (k + 1 + 1 + 1)) d0 d1 d2 d3
      rw [← hX] at P
      have OX : Hid (OneV g j x wr X) := by
        show OneV _ _ _ _ _
        rw [hX]
        exact (((OneV.set g j x wr _ (by omega) _).trans (OneV.set g j x _ _ (by omega) _)).trans (OneV.set g j x _ _ (by omega) _)).trans (OneV.set g j x _ _ (by omega) _)
      have PX : Hid (X.cell? ⟨g, j * 8, none⟩ = some (.int .i64 k) ∧ X.cell? ⟨g, j * 8 + 1, none⟩ = some (.bool ((k + 1) % 3 == 0)) ∧ X.cell? ⟨g, j * 8 + 2, none⟩ = some (.int .i64 (k + 1 + 1)) ∧ X.cell? ⟨g, j * 8 + 3, none⟩ = some (.int .i64 (k + 1 + 1 + 1))) := ⟨P.1, P.2.1, P.2.2.1, P.2.2.2.1⟩
      have R : Hid (X.cell? ⟨g, j * 8 + 4, none⟩ = some (.slice x.a1 x.b.xs.length x.c1) ∧ X.cell? ⟨g, j * 8 + 5, none⟩ = some (.slice x.a2 x.b.ys.length x.c2) ∧ X.cell? ⟨g, j * 8 + 6, none⟩ = some (.int .i64 x.b.v) ∧ X.cell? ⟨g, j * 8 + 7, none⟩ = some (.int .i64 x.b.k)) := by
        have e := P.2.2.2.2
        exact ⟨by rw [e _ (by omega)]; exact d4, by rw [e _ (by omega)]; exact d5, by rw [e _ (by omega)]; exact d6, by rw [e _ (by omega)]; exact d7⟩
      have ob : ∀ b, b ≠ g → X.heap[b]? = wr.heap[b]? := fun b hb => by
        rw [hX]
        rw [Below.heap_setCell _ _ _ _ hb, Below.heap_setCell _ _ _ _ hb, Below.heap_setCell _ _ _ _ hb, Below.heap_setCell _ _ _ _ hb]
      have A1 : Hid (OwnB X B x.a1 x.b.xs) := o1.blk OX.out.size fun b hb => ob b fun e => s1.1 (by rw [← e]; exact hb)
      have A2 : Hid (OwnB X B x.a2 x.b.ys) := o2.blk OX.out.size fun b hb => ob b fun e => s1.2 (by rw [← e]; exact hb)
      have S1 : Hid (blk1 x ≠ some g ∧ blk2 x ≠ some g) := s1
      have S2 : Hid (∀ b, blk1 x = some b → blk2 x ≠ some b) := s2
      have HX : Hid (X = _) := hX
      have FF := FR.out
      clear hX P ob o1 o2 s1 s2
      go_wp2_with fail
      rw [← HX.out]
      refine (markReadB x.a1 x.c1 x.b.xs.length B x.b.xs (k + 1 + 1 + 1 + 1) X A1.out rfl (by omega) (by omega) (by omega)).mono ?_
      rintro e w1 ⟨rfl, p1, t1⟩
      have V1 : Hid (OneV g j x X w1) := OneV.of1 t1 S1.out.1
      have B1 : Hid (OwnB w1 B x.a1 (marks (k + 1 + 1 + 1 + 1) x.b.xs.length)) := p1
      have B2 : Hid (OwnB w1 B x.a2 x.b.ys) := A2.out.blk t1.size fun b hb => t1.heap fun e => S2.out b e hb
      have C1 : Hid (∀ o, w1.cell? ⟨g, o, none⟩ = X.cell? ⟨g, o, none⟩) := fun o => World.cell?_of_block (w := X) (a := ⟨g, o, none⟩) (t1.heap S1.out.1)
      have G5 := (C1.out (j * 8 + 5)).trans R.out.2.1
      clear p1 t1
      go_wp2_with fail
      refine (markPutB x.a2 x.c2 x.b.ys.length B x.b.ys (k + 1 + 1 + 1 + 1 + 2 * x.b.xs.length) w1 B2.out rfl (by omega) (by omega) (by omega)).mono ?_
      rintro e w2 ⟨rfl, p2, t2⟩
      have V2 : Hid (OneV g j x wr w2) := (OX.out.trans V1.out).trans (OneV.of2 t2 S1.out.2)
      have D2 : Hid (OwnB w2 B x.a2 (marks (k + 1 + 1 + 1 + 1 + 2 * x.b.xs.length) x.b.ys.length)) := p2
      have D1 : Hid (OwnB w2 B x.a1 (marks (k + 1 + 1 + 1 + 1) x.b.xs.length)) := B1.out.blk t2.size fun b hb => t2.heap fun e => S2.out b (by rw [marks_length] at hb; exact hb) e
      have C2 : Hid (∀ o, w2.cell? ⟨g, o, none⟩ = X.cell? ⟨g, o, none⟩) := fun o => (World.cell?_of_block (w := w1) (a := ⟨g, o, none⟩) (t2.heap S1.out.2)).trans (C1.out o)
      have F2 : ∀ o, w2.frozen? ⟨g, o, none⟩ = false := fun o => (V2.out.fr o).trans (FF o)
      have G6 := (C2.out (j * 8 + 6)).trans R.out.2.2.1
      have G7 := (C2.out (j * 8 + 7)).trans R.out.2.2.2
      clear p2 t2 G5
      go_wp2_with fail
      have e1 : j * 8 + 1 + 3 + 2 = j * 8 + 6 := by omega
      have e2 : j * 8 + 1 + 3 + 3 = j * 8 + 7 := by omega
      simp only [e1, e2]
      obtain ⟨Y, hY⟩ : ∃ Y, Y = (w2.setCell ⟨g, j * 8 + 6, none⟩ (.int .i64 (k + 1 + 1 + 1 + 1 + 2 * x.b.xs.length + 2 * x.b.ys.length))).setCell ⟨g, j * 8 + 7, none⟩ (.int .i64 (k + 1 + 1 + 1 + 1 + 2 * x.b.xs.length + 2 * x.b.ys.length + 1)) := ⟨_, rfl⟩
      rw [← hY]
      have VY : OneV g j x w2 Y := by
        rw [hY]
        exact (OneV.set g j x w2 _ (by omega) _).trans (OneV.set g j x _ _ (by omega) _)
      have yb : ∀ b, b ≠ g → Y.heap[b]? = w2.heap[b]? := fun b hb => by
        rw [hY, Below.heap_setCell _ _ _ _ hb, Below.heap_setCell _ _ _ _ hb]
      have yo : ∀ o, o ≠ j * 8 + 6 → o ≠ j * 8 + 7 → Y.cell? ⟨g, o, none⟩ = X.cell? ⟨g, o, none⟩ := fun o h6 h7 => by
        rw [hY, setCell_cell_other _ _ _ _ _ (fun e => h7 e.symm), setCell_cell_other _ _ _ _ _ (fun e => h6 e.symm)]
        exact C2.out o
      have y6 : Y.cell? ⟨g, j * 8 + 6, none⟩ = some (.int .i64 (k + 1 + 1 + 1 + 1 + 2 * x.b.xs.length + 2 * x.b.ys.length)) := by
        rw [hY, setCell_cell_other _ _ _ _ _ (by omega)]
        exact setCell_cell_same _ _ _ _ _ G6
      have y7 : Y.cell? ⟨g, j * 8 + 7, none⟩ = some (.int .i64 (k + 1 + 1 + 1 + 1 + 2 * x.b.xs.length + 2 * x.b.ys.length + 1)) := by
        rw [hY]
        exact setCell_cell_same _ _ _ _ (.int .i64 x.b.k) (by rw [setCell_cell_other _ _ _ _ _ (by omega)]; exact G7)
      clear hY
      have k4 : k + 4 = k + 1 + 1 + 1 + 1 := by omega
      have CY : C8 Y g (j * 8) (markedV k x) := by
        refine ⟨?_, ?_, ?_, ?_, ?_, ?_, ?_, ?_⟩
        · rw [yo _ (by omega) (by omega)]; exact PX.out.1
        · rw [yo _ (by omega) (by omega)]; exact PX.out.2.1
        · rw [yo _ (by omega) (by omega), PX.out.2.2.1]; simp only [markedV]; congr 2; omega
        · rw [yo _ (by omega) (by omega), PX.out.2.2.2]; simp only [markedV]; congr 2; omega
        · rw [yo _ (by omega) (by omega), R.out.1]; simp only [markedV, marks_length]
        · rw [yo _ (by omega) (by omega), R.out.2.1]; simp only [markedV, marks_length]
        · rw [y6]; simp only [markedV]; congr 2; omega
        · rw [y7]; simp only [markedV]; congr 2; omega
      have Z := STEP.out Y (V2.out.trans VY) CY
        (by simp only [markedV]; rw [k4]
            exact D1.out.blk VY.size fun b hb => yb b fun e => S1.out.1 (by rw [marks_length] at hb; rw [← e]; exact hb))
        (by simp only [markedV]; rw [k4]
            exact D2.out.blk VY.size fun b hb => yb b fun e => S1.out.2 (by rw [marks_length] at hb; rw [← e]; exact hb))
      refine ⟨⟨j + 1, by omega, by go_num, ?_, Z.1, Z.2⟩, ?_⟩
      · have := NX.out; have := HK.out
        congr 1; omega
      · simp only [intOf]; omega
    · have hji : ¬ (j : Int) < (vs.length : Int) := by omega
      obtain rfl : j = vs.length := by omega
      go_wp2_with fail
      go_ret
      exact ⟨rfl, OV.out, MV.out⟩
end Go.Proofs.Ytbbbfnfpmaogoaa.Own

namespace Go.Proofs.Ytbbbfnfpmaogoaa.Own
open Go.RowKit
set_option linter.unusedVariables false
set_option linter.unusedSimpArgs false

set_option maxRecDepth 100000 in
set_option maxHeartbeats 4000000 in
theorem heldVoteS (g c B : Nat) (vs : List VM) (k0 : Int) (w : World) (h : OwnVs w B g (mixV k0 vs vs.length)) (hn : vs.length ≤ 2 ^ 30) (hk0 : 0 ≤ k0) (hk1 : k0 ≤ 2 ^ 30) (hs : stepsV vs vs.length ≤ 2 ^ 30) :
    Calls Try.prog 40 #[.slice (some ⟨g, 0, none⟩) vs.length c, .int .i64 k0] w fun e w' => e = .returned (.int .i64 (k0 + (stepsV vs vs.length : Nat))) ∧ w' = w := by
  have HS : Hid (stepsV vs vs.length ≤ 2 ^ 30) := hs
  have OV : Hid (OwnVs w B g (mixV k0 vs vs.length)) := h
  clear h hs
  go_enter Try.func40, Try.ntmps40
  go_wp2_with fail
  go_loopw [1, 5] (fun q i wr => ∃ j : Nat, j ≤ vs.length ∧ i = .int .i64 j ∧ q = .int .i64 (k0 + (stepsV vs j : Nat)) ∧ wr = w) (fun _ i _ => vs.length - (intOf i).toNat)
  case atStart => exact ⟨0, Nat.zero_le _, rfl, by simp [stepsV], rfl⟩
  case round =>
    obtain ⟨j, hj, rfl, rfl, rfl⟩ := hrel
    by_cases hlt : j < vs.length
    · have hji : (j : Int) < (vs.length : Int) := by omega
      have hjm : j < (mixV k0 vs vs.length).length := by rw [mixV_len]; exact hlt
      have mj : (mixV k0 vs vs.length).getD j v0 = markedV (k0 + (stepsV vs j : Nat)) (vs.getD j v0) := by rw [mixV_at _ _ _ hlt, if_pos hlt]
      have cj := OV.out.cell j hjm
      obtain ⟨o1, o2⟩ := OV.out.own j hjm
      rw [mj] at cj o1 o2
      obtain ⟨x, hx⟩ : ∃ x, x = vs.getD j v0 := ⟨_, rfl⟩
      have st := stepsV_mono vs (show j + 1 ≤ vs.length by omega)
      have HSn := HS.out
      have NX : Hid (stepsV vs (j + 1) = stepsV vs j + (6 + 2 * x.b.xs.length + 2 * x.b.ys.length)) := by show _ = _; rw [hx]; rfl
      rw [← hx] at cj o1 o2
      have xl : x.b.xs.length ≤ 2 ^ 30 ∧ x.b.ys.length ≤ 2 ^ 30 ∧ stepsV vs j ≤ 2 ^ 30 := by have := NX.out; omega
      clear hx mj hjm HSn st
      obtain ⟨k, hk⟩ : ∃ k : Int, k = k0 + (stepsV vs j : Nat) := ⟨_, rfl⟩
      have kb0 : 0 ≤ k := by omega
      have kb1 : k ≤ 2 ^ 31 := by omega
      rw [← hk] at cj o1 o2 ⊢
      have HK : Hid (k = k0 + (stepsV vs j : Nat)) := hk
      obtain ⟨xl1, xl2, _⟩ := xl
      clear hk
      have e2 : k + 2 = k + 1 + 1 := by omega
      have e3 : k + 3 = k + 1 + 1 + 1 := by omega
      have e4 : k + 4 = k + 1 + 1 + 1 + 1 := by omega
      have e5 : k + 5 + 2 * (x.b.xs.length : Int) + 2 * x.b.ys.length = k + 1 + 1 + 1 + 1 + 2 * x.b.xs.length + 2 * x.b.ys.length + 1 := by omega
      simp only [C8, markedV, marks_length, e5] at cj
      simp only [e2, e3, e4] at cj
      simp only [markedV, e4] at o1 o2
      have A1 : Hid (OwnB wr B x.a1 (marks (k + 1 + 1 + 1 + 1) x.b.xs.length)) := o1
      have A2 : Hid (OwnB wr B x.a2 (marks (k + 1 + 1 + 1 + 1 + 2 * x.b.xs.length) x.b.ys.length)) := o2
      clear o1 o2 e2 e3 e4 e5
      obtain ⟨d0, d1, d2, d3, d4, d5, d6, d7⟩ := cj
      have p1 : ¬ k + 1 + 1 + 1 + 1 + 2 * (x.b.xs.length : Int) < 0 := by omega
      have p2 : ¬ k + 1 + 1 + 1 + 1 + 2 * (x.b.xs.length : Int) + 2 * (x.b.ys.length : Int) < 0 := by omega
      go_wp2_with fail
      refine (heldReadB x.a1 x.c1 x.b.xs.length B (k + 1 + 1 + 1 + 1) wr A1.out (by omega) (by omega) (by omega)).mono ?_
      rintro e w1 ⟨rfl, hw⟩
      subst hw
      go_wp2_with fail
      refine (heldPutB x.a2 x.c2 x.b.ys.length B (k + 1 + 1 + 1 + 1 + 2 * x.b.xs.length) w1 A2.out (by omega) (by omega) (by omega)).mono ?_
      rintro e w2 ⟨rfl, hw⟩
      subst hw
      go_wp2_with fail
      refine ⟨⟨j + 1, by omega, by go_num, ?_, by first | trivial | rfl⟩, ?_⟩
      · have := NX.out; have := HK.out
        congr 1; omega
      · simp only [intOf]; omega
    · have hji : ¬ (j : Int) < (vs.length : Int) := by omega
      obtain rfl : j = vs.length := by omega
      go_wp2_with fail
      go_ret
      exact ⟨rfl, rfl⟩
end Go.Proofs.Ytbbbfnfpmaogoaa.Own

namespace Go.Proofs.Ytbbbfnfpmaogoaa.Own
open Go.RowKit
set_option linter.unusedVariables false
set_option linter.unusedSimpArgs false

set_option maxHeartbeats 1000000 in
theorem markVoteS0 (a : Option Addr) (c : Nat) (k : Int) (w : World) :
    Calls Try.prog 39 #[.slice a 0 c, .int .i64 k] w fun e w' => e = .returned (.int .i64 k) ∧ w' = w := by
  go_enter Try.func39, Try.ntmps39
  go_wp2
  go_loop [1, 5] (fun q i => i = .int .i64 0 ∧ q = .int .i64 k) (fun _ _ => 0)
  case atStart => exact ⟨rfl, rfl⟩
  case round =>
    obtain ⟨rfl, rfl⟩ := hrel
    go_wp2
    go_ret
    exact ⟨rfl, rfl⟩
set_option maxHeartbeats 1000000 in
theorem heldVoteS0 (a : Option Addr) (c : Nat) (k : Int) (w : World) :
    Calls Try.prog 40 #[.slice a 0 c, .int .i64 k] w fun e w' => e = .returned (.int .i64 k) ∧ w' = w := by
  go_enter Try.func40, Try.ntmps40
  go_wp2
  go_loop [1, 5] (fun q i => i = .int .i64 0 ∧ q = .int .i64 k) (fun _ _ => 0)
  case atStart => exact ⟨rfl, rfl⟩
  case round =>
    obtain ⟨rfl, rfl⟩ := hrel
    go_wp2
    go_ret
    exact ⟨rfl, rfl⟩

/-- The marks of a list that appends made, whatever its length. -/
theorem markOwnL (v : Value) (B : Nat) (vs : List VM) (k0 : Int) (w : World) (h : OwnL w B v vs) (hn : vs.length ≤ 2 ^ 30) (hk0 : 0 ≤ k0) (hk1 : k0 ≤ 2 ^ 30) (hs : stepsV vs vs.length ≤ 2 ^ 30) :
    Calls Try.prog 39 #[v, .int .i64 k0] w fun e w' => e = .returned (.int .i64 (k0 + (stepsV vs vs.length : Nat))) ∧ (vs ≠ [] → ∃ g cap, v = .slice (some ⟨g, 0, none⟩) vs.length cap ∧ B ≤ g ∧ OwnVs w' B g (mixV k0 vs vs.length) ∧ ManyV g vs w w' ∧ Sep g vs) ∧ (vs = [] → w' = w) := by
  by_cases h0 : vs = []
  · subst h0
    obtain ⟨_, hr⟩ := h.row
    rcases hr with ⟨hv, _⟩ | ⟨g, cap, cur, hv, _⟩
    · rw [hv]
      refine (markVoteS0 none 0 k0 w).mono ?_
      rintro e w' ⟨rfl, rfl⟩
      exact ⟨by simp [stepsV], fun h => absurd rfl h, fun _ => rfl⟩
    · rw [hv]
      refine (markVoteS0 (some ⟨g, 0, none⟩) cap k0 w).mono ?_
      rintro e w' ⟨rfl, rfl⟩
      exact ⟨by simp [stepsV], fun h => absurd rfl h, fun _ => rfl⟩
  · obtain ⟨g, cap, hv, hcap, ho, hsep⟩ := h.vs h0
    rw [hv]
    refine (markVoteS g cap B vs k0 w ho hsep hn hk0 hk1 hs).mono ?_
    rintro e w' ⟨rfl, h1, h2⟩
    exact ⟨rfl, fun _ => ⟨g, cap, rfl, ho.lo, h1, h2, hsep⟩, fun h => absurd h h0⟩
/-- And what is held of them. -/
theorem heldOwnL (v : Value) (B : Nat) (vs : List VM) (k0 : Int) (w : World) (hv0 : vs = [] → ∃ a c, v = .slice a 0 c) (hv1 : vs ≠ [] → ∃ g cap, v = .slice (some ⟨g, 0, none⟩) vs.length cap ∧ OwnVs w B g (mixV k0 vs vs.length)) (hn : vs.length ≤ 2 ^ 30) (hk0 : 0 ≤ k0) (hk1 : k0 ≤ 2 ^ 30) (hs : stepsV vs vs.length ≤ 2 ^ 30) :
    Calls Try.prog 40 #[v, .int .i64 k0] w fun e w' => e = .returned (.int .i64 (k0 + (stepsV vs vs.length : Nat))) ∧ w' = w := by
  by_cases h0 : vs = []
  · obtain ⟨a, c, rfl⟩ := hv0 h0
    subst h0
    refine (heldVoteS0 a c k0 w).mono ?_
    rintro e w' ⟨rfl, rfl⟩
    exact ⟨by simp [stepsV], rfl⟩
  · obtain ⟨g, cap, rfl, ho⟩ := hv1 h0
    exact heldVoteS g cap B vs k0 w ho hn hk0 hk1 hs
end Go.Proofs.Ytbbbfnfpmaogoaa.Own

namespace Go.Proofs.Ytbbbfnfpmaogoaa.Own
open Go.RowKit
set_option linter.unusedVariables false
set_option linter.unusedSimpArgs false

set_option maxHeartbeats 400000 in
theorem toReq (a b : Int) (w : World) : Calls Try.prog 77 #[.agg #[.int .i64 a, .int .i64 b]] w fun e w' => e = .returned (.agg #[.int .i64 a, .int .i64 b]) ∧ Below w.heap.size w w' := by
  go_enter Try.func77, Try.ntmps77
  go_wp2
  refine bodyPost_ret (v := .agg #[.int .i64 a, .int .i64 b]) (by simp [results, Try.results77, go_sem]) rfl ⟨rfl, ?_⟩
  exact ((((Below.refl _ _).alloc (Nat.le_refl _) _).alloc (by simp) _).alloc (by simp; omega) _)

theorem eqReq (a b : Int) (w : World) : Calls Try.prog 83 #[.agg #[.int .i64 a, .int .i64 b], .agg #[.int .i64 a, .int .i64 b]] w fun e w' => e = .returned (.bool true) ∧ Below w.heap.size w w' := by
  have ea : (a != a) = false := by simp
  have eb : (b != b) = false := by simp
  go_enter Try.func83, Try.ntmps83
  go_wp2
  go_ret
  exact ⟨rfl, ((Below.refl _ _).alloc (Nat.le_refl _) _).alloc (by simp) _⟩

theorem szEntry (n : Bool) (p q : Int) (a1 a2 : Option Addr) (n1 c1 n2 c2 : Nat) (v k left : Int) (w : World) (h1 : n1 ≤ maxLen) (h2 : n2 ≤ maxLen) (h0 : 0 ≤ left) (hm : left ≤ 2 ^ 60) :
    Calls Try.prog 28 #[.agg #[.bool n, .int .i64 p, .int .i64 q, .slice a1 n1 c1, .slice a2 n2 c2, .int .i64 v, .int .i64 k], .int .i64 left] w fun e w' => e = .returned (.int .i64 (if left - n1 - n2 < 0 then -1 else left - n1 - n2)) ∧ Below w.heap.size w w' := by
  obtain ⟨W, hW⟩ : ∃ W, W = w.alloc (.cells #[.bool n, .int .i64 p, .int .i64 q, .slice a1 n1 c1, .slice a2 n2 c2, .int .i64 v, .int .i64 k] 60) := ⟨_, rfl⟩
  have BW : Hid (Below w.heap.size w W) := by show Below _ _ _; rw [hW]; exact (Below.refl _ _).alloc (Nat.le_refl _) _
  have HW : Hid (W = _) := hW
  clear hW
  by_cases hl : left - n1 - n2 < 0
  · go_enter Try.func28, Try.ntmps28
    go_wp2_with fail
    rw [← HW.out]
    refine (szRun a1 a2 n1 c1 n2 c2 v k left W h1 h2 h0 hm).mono ?_
    rintro e w1 ⟨rfl, b1⟩
    rw [if_pos (by omega)]
    have B1 : Hid (Below w.heap.size w w1) := BW.out.trans (b1.mono BW.out.size)
    clear b1
    go_wp2_with fail
    go_ret
    exact ⟨rfl, B1.out⟩
  · go_enter Try.func28, Try.ntmps28
    go_wp2_with fail
    rw [← HW.out]
    refine (szRun a1 a2 n1 c1 n2 c2 v k left W h1 h2 h0 hm).mono ?_
    rintro e w1 ⟨rfl, b1⟩
    rw [if_neg (by omega)]
    have B1 : Hid (Below w.heap.size w w1) := BW.out.trans (b1.mono BW.out.size)
    clear b1
    go_wp2_with fail
    go_ret
    exact ⟨rfl, B1.out⟩

set_option maxRecDepth 100000 in
set_option maxHeartbeats 1000000 in
theorem eqEntry (n : Bool) (p q : Int) (a1 a2 b1 b2 : Option Addr) (c1 c2 d1 d2 : Nat) (xs ys : List P2) (v k : Int) (w : World) (h1 : Sl w a1 xs) (h2 : Sl w a2 ys) (h3 : Sl w b1 xs) (h4 : Sl w b2 ys)
    (n1 : xs.length ≤ 2 ^ 40) (n2 : ys.length ≤ 2 ^ 40) :
    Calls Try.prog 32 #[.agg #[.bool n, .int .i64 p, .int .i64 q, .slice a1 xs.length c1, .slice a2 ys.length c2, .int .i64 v, .int .i64 k], .agg #[.bool n, .int .i64 p, .int .i64 q, .slice b1 xs.length d1, .slice b2 ys.length d2, .int .i64 v, .int .i64 k]] w fun e w' => e = .returned (.bool true) ∧ Below w.heap.size w w' := by
  have H1 : Hid (Sl w a1 xs) := h1
  have H2 : Hid (Sl w a2 ys) := h2
  have H3 : Hid (Sl w b1 xs) := h3
  have H4 : Hid (Sl w b2 ys) := h4
  clear h1 h2 h3 h4
  obtain ⟨W, hW⟩ : ∃ W, W = (w.alloc (.cells #[.bool n, .int .i64 p, .int .i64 q, .slice a1 xs.length c1, .slice a2 ys.length c2, .int .i64 v, .int .i64 k] 34)).alloc (.cells #[.bool n, .int .i64 p, .int .i64 q, .slice b1 xs.length d1, .slice b2 ys.length d2, .int .i64 v, .int .i64 k] 34) := ⟨_, rfl⟩
  have BW : Hid (Below w.heap.size w W) := by
    show Below _ _ _
    rw [hW]; exact ((Below.refl _ _).alloc (Nat.le_refl _) _).alloc (by simp) _
  have G0 : Hid (Blk W w.heap.size #[.bool n, .int .i64 p, .int .i64 q, .slice a1 xs.length c1, .slice a2 ys.length c2, .int .i64 v, .int .i64 k] 34) := by show Blk _ _ _ _; rw [hW]; exact (Blk.new _ _ _).alloc _
  have G1 : Hid (Blk W (w.heap.size + 1) #[.bool n, .int .i64 p, .int .i64 q, .slice b1 xs.length d1, .slice b2 ys.length d2, .int .i64 v, .int .i64 k] 34) := by show Blk _ _ _ _; rw [hW]; exact Blk.new2 _ _ _ _
  have HW : Hid (W = _) := hW
  clear hW
  have en : (n != n) = false := by simp
  go_enter Try.func32, Try.ntmps32
  go_wp2_with fail
  rw [← HW.out]
  refine (eqReq p q W).mono ?_
  rintro e w1 ⟨rfl, b1'⟩
  have B1 : Hid (Below w.heap.size w w1) := BW.out.trans (b1'.mono BW.out.size)
  obtain ⟨q0, q1, q2, q3, q4, q5, q6⟩ := (G0.out.keep b1').cells7
  obtain ⟨r0, r1, r2, r3, r4, r5, r6⟩ := (G1.out.keep b1').cells7
  clear b1'
  go_wp2_with fail
  refine (eqRun a1 a2 b1 b2 c1 c2 d1 d2 xs ys xs ys v k v k w1 (H1.out.below B1.out) (H2.out.below B1.out) (H3.out.below B1.out) (H4.out.below B1.out) n1 n2 n1 n2 ⟨rfl, rfl, rfl, rfl⟩).mono ?_
  rintro e w2 ⟨rfl, b2'⟩
  have B2 : Hid (Below w.heap.size w w2) := B1.out.trans (b2'.mono B1.out.size)
  clear b2' q0 q1 q2 q3 q4 q5 q6 r0 r1 r2 r3 r4 r5 r6
  go_wp2_with fail
  go_ret
  exact ⟨rfl, B2.out⟩

set_option maxRecDepth 100000 in
set_option maxHeartbeats 1000000 in
theorem toEntry (n : Bool) (p q : Int) (a1 a2 : Option Addr) (c1 c2 : Nat) (xs ys : List P2) (v k : Int) (w : World) (h1 : Sl w a1 xs) (h2 : Sl w a2 ys) (hn1 : xs.length ≤ 2 ^ 40) (hn2 : ys.length ≤ 2 ^ 40) :
    Calls Try.prog 30 #[.agg #[.bool n, .int .i64 p, .int .i64 q, .slice a1 xs.length c1, .slice a2 ys.length c2, .int .i64 v, .int .i64 k]] w fun e w' => ∃ g1 g2, e = .returned (.agg #[.bool n, .int .i64 p, .int .i64 q, .slice (some ⟨g1, 0, none⟩) xs.length xs.length, .slice (some ⟨g2, 0, none⟩) ys.length ys.length, .int .i64 v, .int .i64 k]) ∧ RunOwn w' w.heap.size g1 g2 xs ys ∧ Below w.heap.size w w' := by
  have H1 : Hid (Sl w a1 xs) := h1
  have H2 : Hid (Sl w a2 ys) := h2
  clear h1 h2
  obtain ⟨W, hW⟩ : ∃ W, W = ((w.alloc (.cells #[.bool n, .int .i64 p, .int .i64 q, .slice a1 xs.length c1, .slice a2 ys.length c2, .int .i64 v, .int .i64 k] 60)).alloc (.cells #[.bool false, .int .i64 0, .int .i64 0, .slice none 0 0, .slice none 0 0, .int .i64 0, .int .i64 0] 34)).alloc (.cells #[.bool n, .int .i64 0, .int .i64 0, .slice none 0 0, .slice none 0 0, .int .i64 0, .int .i64 0] 34) := ⟨_, rfl⟩
  have BW : Hid (Below w.heap.size w W) := by
    show Below _ _ _
    rw [hW]; exact ((((Below.refl _ _).alloc (Nat.le_refl _) _).alloc (by simp) _).alloc (by simp; omega) _)
  have SW : Hid (W.heap.size = w.heap.size + 3) := by show _ = _; rw [hW]; simp
  have G0 : Hid (Blk W w.heap.size #[.bool n, .int .i64 p, .int .i64 q, .slice a1 xs.length c1, .slice a2 ys.length c2, .int .i64 v, .int .i64 k] 60) := by
    show Blk _ _ _ _; rw [hW]; exact ((Blk.new _ _ _).alloc _).alloc _
  have G1 : Hid (Blk W (w.heap.size + 1) #[.bool false, .int .i64 0, .int .i64 0, .slice none 0 0, .slice none 0 0, .int .i64 0, .int .i64 0] 34) := by
    show Blk _ _ _ _; rw [hW]; exact (Blk.new2 _ _ _ _).alloc _
  have G2 : Hid (Blk W (w.heap.size + 1 + 1) #[.bool n, .int .i64 0, .int .i64 0, .slice none 0 0, .slice none 0 0, .int .i64 0, .int .i64 0] 34) := by
    show Blk _ _ _ _; rw [hW]; exact Blk.new3 _ _ _ _ _
  have HW : Hid (W = _) := hW
  clear hW
  go_enter Try.func30, Try.ntmps30
  go_wp2_with fail
  rw [← HW.out]
  refine (toReq p q W).mono ?_
  rintro e w1 ⟨rfl, b1⟩
  have B1 : Hid (Below w.heap.size w w1) := BW.out.trans (b1.mono BW.out.size)
  have S1 : Hid (W.heap.size ≤ w1.heap.size) := b1.size
  have D0 : Hid (Blk w1 w.heap.size _ _) := G0.out.keep b1
  have D1 : Hid (Blk w1 (w.heap.size + 1) _ _) := G1.out.keep b1
  have D2 : Hid (Blk w1 (w.heap.size + 1 + 1) _ _) := G2.out.keep b1
  clear b1
  obtain ⟨q0, q1, q2, q3, q4, q5, q6⟩ := D0.out.cells7
  obtain ⟨r0, r1, r2, r3, r4, r5, r6⟩ := D2.out.cells7
  have f1 := D2.out.frozen 1
  have f2 := D2.out.frozen 2
  go_wp2_with fail
  obtain ⟨W2, hW2⟩ : ∃ W2, W2 = (w1.setCell ⟨w.heap.size + 1 + 1, 1, none⟩ (.int .i64 p)).setCell ⟨w.heap.size + 1 + 1, 2, none⟩ (.int .i64 q) := ⟨_, rfl⟩
  have E1 : Hid (Blk W2 (w.heap.size + 1) #[.bool false, .int .i64 0, .int .i64 0, .slice none 0 0, .slice none 0 0, .int .i64 0, .int .i64 0] 34) := by show Blk _ _ _ _; rw [hW2]; exact (D1.out.other (by omega) _ _).other (by omega) _ _
  have E2 : Hid (Blk W2 (w.heap.size + 1 + 1) #[.bool n, .int .i64 p, .int .i64 q, .slice none 0 0, .slice none 0 0, .int .i64 0, .int .i64 0] 34) := by show Blk _ _ _ _; rw [hW2]; exact (D2.out.set _ _).set _ _
  have B2 : Hid (Below w.heap.size w W2) := by show Below _ _ _; rw [hW2]; exact (B1.out.setCell (by show w.heap.size ≤ w.heap.size + 1 + 1; omega) _).setCell (by show w.heap.size ≤ w.heap.size + 1 + 1; omega) _
  have S2 : Hid (w.heap.size + 3 ≤ W2.heap.size) := by show _ ≤ _; rw [hW2]; simp [World.setCell]; have := S1.out; have := SW.out; omega
  have HW2 : Hid (W2 = _) := hW2
  rw [← HW2.out]
  clear hW2 q0 q1 q2 q3 q4 q5 q6 r0 r1 r2 r3 r4 r5 r6 f1 f2
  refine (toRun a1 a2 c1 c2 xs ys v k W2 (H1.out.below B2.out) (H2.out.below B2.out) hn1 hn2).mono ?_
  rintro e w3 ⟨g1, g2, rfl, own, b3⟩
  have F1 : Hid (Blk w3 (w.heap.size + 1) _ _) := E1.out.keep b3
  have F2 : Hid (Blk w3 (w.heap.size + 1 + 1) _ _) := E2.out.keep b3
  have B3 : Hid (Below w.heap.size w w3) := B2.out.trans (b3.mono B2.out.size)
  have O3 : Hid (RunOwn w3 w.heap.size g1 g2 xs ys) := ⟨Nat.le_trans B2.out.size own.1, Nat.le_trans B2.out.size own.2.1, own.2.2⟩
  have N3 : Hid (w.heap.size + 3 ≤ g1 ∧ w.heap.size + 3 ≤ g2) := ⟨Nat.le_trans S2.out own.1, Nat.le_trans S2.out own.2.1⟩
  clear b3 own
  obtain ⟨i0, i1, i2, i3, i4, i5, i6⟩ := F1.out.cells7
  obtain ⟨o0, o1, o2, o3, o4, o5, o6⟩ := F2.out.cells7
  have fo := F2.out.frozen
  have fi := F1.out.frozen
  go_wp2
  refine bodyPost_ret (v := .agg #[.bool n, .int .i64 p, .int .i64 q, .slice (some ⟨g1, 0, none⟩) xs.length xs.length, .slice (some ⟨g2, 0, none⟩) ys.length ys.length, .int .i64 v, .int .i64 k]) (by simp [results, Try.results30, go_sem, i0, i1, i2, i3, i4, i5, i6]) rfl ⟨g1, g2, rfl, ?_, ?_⟩
  · have KK : KeepFrom (w.heap.size + 3) w3 _ := (((((((((((KeepFrom.refl (w.heap.size + 3) w3).setCell (p := ⟨w.heap.size + 1 + 1, 3, none⟩) (by show w.heap.size + 1 + 1 < _; omega) (.slice (some ⟨g1, 0, none⟩) xs.length xs.length)).setCell (p := ⟨w.heap.size + 1 + 1, 4, none⟩) (by show w.heap.size + 1 + 1 < _; omega) (.slice (some ⟨g2, 0, none⟩) ys.length ys.length)).setCell (p := ⟨w.heap.size + 1 + 1, 5, none⟩) (by show w.heap.size + 1 + 1 < _; omega) (.int .i64 v)).setCell (p := ⟨w.heap.size + 1 + 1, 6, none⟩) (by show w.heap.size + 1 + 1 < _; omega) (.int .i64 k)).setCell (p := ⟨w.heap.size + 1, 0, none⟩) (by show w.heap.size + 1 < _; omega) (.bool n)).setCell (p := ⟨w.heap.size + 1, 1, none⟩) (by show w.heap.size + 1 < _; omega) (.int .i64 p)).setCell (p := ⟨w.heap.size + 1, 2, none⟩) (by show w.heap.size + 1 < _; omega) (.int .i64 q)).setCell (p := ⟨w.heap.size + 1, 3, none⟩) (by show w.heap.size + 1 < _; omega) (.slice (some ⟨g1, 0, none⟩) xs.length xs.length)).setCell (p := ⟨w.heap.size + 1, 4, none⟩) (by show w.heap.size + 1 < _; omega) (.slice (some ⟨g2, 0, none⟩) ys.length ys.length)).setCell (p := ⟨w.heap.size + 1, 5, none⟩) (by show w.heap.size + 1 < _; omega) (.int .i64 v)).setCell (p := ⟨w.heap.size + 1, 6, none⟩) (by show w.heap.size + 1 < _; omega) (.int .i64 k)
    exact O3.out.keep KK N3.out.1 N3.out.2
  · have s2 : w.heap.size ≤ w.heap.size + 1 + 1 := by omega
    have s1 : w.heap.size ≤ w.heap.size + 1 := by omega
    exact ((((((((((B3.out.setCell s2 _).setCell s2 _).setCell s2 _).setCell s2 _).setCell s1 _).setCell s1 _).setCell s1 _).setCell s1 _).setCell s1 _).setCell s1 _).setCell s1 _
end Go.Proofs.Ytbbbfnfpmaogoaa.Own

namespace Go.Proofs.Ytbbbfnfpmaogoaa.Own
open Go.RowKit Go.Sort
set_option linter.unusedVariables false
set_option linter.unusedSimpArgs false

set_option maxRecDepth 100000 in
set_option maxHeartbeats 1000000 in
theorem eqVote (m : Int) (n : Bool) (p q : Int) (a1 a2 b1 b2 : Option Addr) (c1 c2 d1 d2 : Nat) (xs ys : List P2) (v k : Int) (w : World) (h1 : Sl w a1 xs) (h2 : Sl w a2 ys) (h3 : Sl w b1 xs) (h4 : Sl w b2 ys)
    (n1 : xs.length ≤ 2 ^ 40) (n2 : ys.length ≤ 2 ^ 40) :
    Calls Try.prog 90 #[.agg #[.int .i64 m, .bool n, .int .i64 p, .int .i64 q, .slice a1 xs.length c1, .slice a2 ys.length c2, .int .i64 v, .int .i64 k], .agg #[.int .i64 m, .bool n, .int .i64 p, .int .i64 q, .slice b1 xs.length d1, .slice b2 ys.length d2, .int .i64 v, .int .i64 k]] w fun e w' => e = .returned (.bool true) ∧ Below w.heap.size w w' := by
  have H1 : Hid (Sl w a1 xs) := h1
  have H2 : Hid (Sl w a2 ys) := h2
  have H3 : Hid (Sl w b1 xs) := h3
  have H4 : Hid (Sl w b2 ys) := h4
  clear h1 h2 h3 h4
  obtain ⟨W, hW⟩ : ∃ W, W = (w.alloc (.cells #[.int .i64 m, .bool n, .int .i64 p, .int .i64 q, .slice a1 xs.length c1, .slice a2 ys.length c2, .int .i64 v, .int .i64 k] 86)).alloc (.cells #[.int .i64 m, .bool n, .int .i64 p, .int .i64 q, .slice b1 xs.length d1, .slice b2 ys.length d2, .int .i64 v, .int .i64 k] 86) := ⟨_, rfl⟩
  have BW : Hid (Below w.heap.size w W) := by
    show Below _ _ _
    rw [hW]; exact ((Below.refl _ _).alloc (Nat.le_refl _) _).alloc (by simp) _
  have HW : Hid (W = _) := hW
  clear hW
  have en : (m != m) = false := by simp
  go_enter Try.func90, Try.ntmps90
  go_wp2_with fail
  rw [← HW.out]
  refine (eqEntry n p q a1 a2 b1 b2 c1 c2 d1 d2 xs ys v k W (H1.out.below BW.out) (H2.out.below BW.out) (H3.out.below BW.out) (H4.out.below BW.out) n1 n2).mono ?_
  rintro e w2 ⟨rfl, b2'⟩
  have B2 : Hid (Below w.heap.size w w2) := BW.out.trans (b2'.mono BW.out.size)
  clear b2'
  go_wp2_with fail
  go_ret
  exact ⟨rfl, B2.out⟩

set_option maxRecDepth 100000 in
set_option maxHeartbeats 4000000 in
theorem eqVoteS (a b : Option Addr) (c d : Nat) (vs us : List VM) (w : World) (h1 : SlV w a vs) (h2 : SlV w b us) (hb : bodies vs = bodies us) (hn : vs.length ≤ 2 ^ 40) (hl : ∀ i, i < vs.length → (vs.getD i v0).b.xs.length ≤ 2 ^ 40 ∧ (vs.getD i v0).b.ys.length ≤ 2 ^ 40) :
    Calls Try.prog 38 #[.slice a vs.length c, .slice b us.length d] w fun e w' => e = .returned (.bool true) ∧ Below w.heap.size w w' := by
  obtain ⟨hlen, hbod⟩ := bodies_eq hb
  have H1 : Hid (SlV w a vs) := h1
  have H2 : Hid (SlV w b us) := h2
  have HL : Hid (∀ i, i < vs.length → (vs.getD i v0).b.xs.length ≤ 2 ^ 40 ∧ (vs.getD i v0).b.ys.length ≤ 2 ^ 40) := hl
  have HB : Hid (∀ i, (vs.getD i v0).body = (us.getD i v0).body) := hbod
  rw [← hlen]
  have HE : Hid (vs.length = us.length) := hlen
  clear h1 h2 hl hb hbod hlen
  have hne : ((vs.length : Int) != (vs.length : Int)) = false := by simp
  go_enter Try.func38, Try.ntmps38
  go_wp2_with fail
  go_loopw [5] (fun i wr => ∃ k : Nat, k ≤ vs.length ∧ i = .int .i64 k ∧ Hid (Below w.heap.size w wr)) (fun i _ => vs.length - (intOf i).toNat)
  case atStart => exact ⟨0, Nat.zero_le _, rfl, Below.refl _ _⟩
  case round =>
    obtain ⟨k, hk, rfl, KR⟩ := hrel
    by_cases hlt : k < vs.length
    · have hki : (k : Int) < (vs.length : Int) := by omega
      have hlt2 : k < us.length := by rw [← HE.out]; exact hlt
      rcases H1.out.below KR.out with hh | ⟨b1, o1, rfl, _, hh⟩
      · rw [hh] at hlt; simp at hlt
      rcases H2.out.below KR.out with hg | ⟨b2, o2, rfl, _, hg⟩
      · rw [hg] at hlt2; simp at hlt2
      obtain ⟨⟨d0, d1, d2, d3, d4, d5, d6, d7⟩, s1, s2⟩ := hh k hlt
      obtain ⟨⟨f0, f1, f2, f3, f4, f5, f6, f7⟩, t1, t2⟩ := hg k hlt2
      have lx := HL.out k hlt
      have SX : Hid (Sl wr (vs.getD k v0).a1 (vs.getD k v0).b.xs ∧ Sl wr (vs.getD k v0).a2 (vs.getD k v0).b.ys) := ⟨s1, s2⟩
      have SY : Hid (Sl wr (us.getD k v0).a1 (us.getD k v0).b.xs ∧ Sl wr (us.getD k v0).a2 (us.getD k v0).b.ys) := ⟨t1, t2⟩
      obtain ⟨be, bb⟩ := body_eq (HB.out k)
      rw [← be] at f0
      rw [← bb] at f1 f2 f3 f4 f5 f6 f7 SY
      clear hh hg s1 s2 t1 t2 be bb
      generalize vs.getD k v0 = x at d0 d1 d2 d3 d4 d5 d6 d7 f0 f1 f2 f3 f4 f5 f6 f7 lx SX SY
      generalize us.getD k v0 = y at f0 f1 f2 f3 f4 f5 f6 f7 SY
      obtain ⟨xbal, ⟨xn, xp, xq, xxs, xys, xv, xk⟩, xa1, xc1, xa2, xc2⟩ := x
      obtain ⟨ybal, yb, ya1, yc1, ya2, yc2⟩ := y
      simp only at d0 d1 d2 d3 d4 d5 d6 d7 f0 f1 f2 f3 f4 f5 f6 f7 lx SX SY
      have EQ : Hid (∀ d os, Calls Try.prog 90 #[.agg #[.int .i64 xbal, .bool xn, .int .i64 xp, .int .i64 xq, .slice xa1 xxs.length xc1, .slice xa2 xys.length xc2, .int .i64 xv, .int .i64 xk], .agg #[.int .i64 xbal, .bool xn, .int .i64 xp, .int .i64 xq, .slice ya1 xxs.length yc1, .slice ya2 xys.length yc2, .int .i64 xv, .int .i64 xk]] (grow (redrawn wr d) os) fun e w'' => e = .returned (.bool true) ∧ ∃ p : Regrown, w'' = grow (redrawn wr p.d) p.os) := fun d os => by
        have hb := below_regrown wr d os
        have h := eqVote xbal xn xp xq xa1 xa2 ya1 ya2 xc1 xc2 yc1 yc2 xxs xys xv xk _ (SX.out.1.below hb) (SX.out.2.below hb) (SY.out.1.below hb) (SY.out.2.below hb) lx.1 lx.2
        exact Calls.regrown_of h
      have m0 := cell_regrown d0
      have m1 := cell_regrown d1
      have m2 := cell_regrown d2
      have m3 := cell_regrown d3
      have m4 := cell_regrown d4
      have m5 := cell_regrown d5
      have m6 := cell_regrown d6
      have m7 := cell_regrown d7
      have r0 := cell_regrown f0
      have r1 := cell_regrown f1
      have r2 := cell_regrown f2
      have r3 := cell_regrown f3
      have r4 := cell_regrown f4
      have r5 := cell_regrown f5
      have r6 := cell_regrown f6
      have r7 := cell_regrown f7
      clear d0 d1 d2 d3 d4 d5 d6 d7 f0 f1 f2 f3 f4 f5 f6 f7
      go_upto_region 6 with fail
      refine wp_region_quiet_below (by kernel_rfl) (by kernel_rfl) ?_
      repeat (go_big_quiet_step (first | (go_at_call 90; exact EQ.out _ _)))
      refine wpQuiet_nil ?_
      intro Y hw'
      obtain ⟨⟨dq, osq⟩, hw''⟩ := hw'
      have hx : Below wr.heap.size wr Y := by rw [hw'']; exact below_regrown wr dq osq
      have KY : Hid (Below w.heap.size w Y) := KR.out.trans (hx.mono KR.out.size)
      clear hx hw'' m0 m1 m2 m3 m4 m5 m6 m7 r0 r1 r2 r3 r4 r5 r6 r7
      go_wp2_with fail
      go_roundw
      case rel => exact ⟨k + 1, by omega, by go_num, KY.out⟩
      case measure => simp [intOf]; omega
    · have hki : ¬ (k : Int) < (vs.length : Int) := by omega
      go_wp2_with fail
      go_ret
      exact ⟨rfl, KR.out⟩
end Go.Proofs.Ytbbbfnfpmaogoaa.Own

namespace Go.Proofs.Ytbbbfnfpmaogoaa.Own
open Go.RowKit
set_option linter.unusedVariables false
set_option linter.unusedSimpArgs false

structure InR (w : World) (B T g : Nat) (L : List VM) : Prop where
  vs : OwnVs w B g L
  sep : Sep g L
  hi : g < T
  his : ∀ i, i < L.length → ∀ b, (blk1 (L.getD i v0) = some b ∨ blk2 (L.getD i v0) = some b) → b < T

theorem OwnB.blkS {w w' : World} {B : Nat} {a : Option Addr} {xs : List P2} (h : OwnB w B a xs) (hs : w.heap.size ≤ w'.heap.size) (hb : ∀ b, blkOf a xs.length = some b → w'.heap[b]? = w.heap[b]?) : OwnB w' B a xs := by
  rcases h with h | ⟨g, rfl, hB, h, hf⟩
  · exact .inl h
  · by_cases h0 : xs = []
    · exact .inl h0
    · have hl : xs.length ≠ 0 := fun e => h0 (List.eq_nil_of_length_eq_zero e)
      have e := hb g (by simp [blkOf, hl])
      exact .inr ⟨g, rfl, hB, h.block hs e, fun o => by rw [World.frozen?_of_block (w := w) (a := ⟨g, o, none⟩) e]; exact hf o⟩

theorem InR.keepIn {w w' : World} {B T g : Nat} {L : List VM} (h : InR w B T g L) (hs : w.heap.size ≤ w'.heap.size) (hb : ∀ b, B ≤ b → b < T → w'.heap[b]? = w.heap[b]?) : InR w' B T g L := by
  have e := hb g h.vs.lo h.hi
  refine ⟨⟨Nat.lt_of_lt_of_le h.vs.lt hs, h.vs.lo, fun o => by rw [World.frozen?_of_block (w := w) (a := ⟨g, o, none⟩) e]; exact h.vs.fr o, fun i hi => (h.vs.cell i hi).congr fun l _ => World.cell?_of_block (w := w) (a := ⟨g, i * 8 + l, none⟩) e, fun i hi => ⟨(h.vs.own i hi).1.blkS hs fun b hb' => hb b ((h.vs.own i hi).1.blkLt b hb').1 (h.his i hi b (.inl hb')), (h.vs.own i hi).2.blkS hs fun b hb' => hb b ((h.vs.own i hi).2.blkLt b hb').1 (h.his i hi b (.inr hb'))⟩⟩, h.sep, h.hi, h.his⟩

/-- A list of votes of one's own, empty or not. -/
def OwnR (w : World) (B T : Nat) (v : Value) (L : List VM) : Prop := T ≤ w.heap.size ∧ ∃ a cap, v = .slice a L.length cap ∧ (L = [] ∨ ∃ g, a = some ⟨g, 0, none⟩ ∧ InR w B T g L)
/-- The same, marked. -/
def HeldR (w : World) (B T : Nat) (v : Value) (k0 : Int) (L : List VM) : Prop := T ≤ w.heap.size ∧ ∃ a cap, v = .slice a L.length cap ∧ (L = [] ∨ ∃ g, a = some ⟨g, 0, none⟩ ∧ InR w B T g (mixV k0 L L.length))
theorem OwnR.keepIn {w w' : World} {B T : Nat} {v : Value} {L : List VM} (h : OwnR w B T v L) (hs : w.heap.size ≤ w'.heap.size) (hb : ∀ b, B ≤ b → b < T → w'.heap[b]? = w.heap[b]?) : OwnR w' B T v L := by
  obtain ⟨h1, a, cap, rfl, h2⟩ := h
  refine ⟨Nat.le_trans h1 hs, a, cap, rfl, ?_⟩
  rcases h2 with h2 | ⟨g, rfl, h2⟩
  · exact .inl h2
  · exact .inr ⟨g, rfl, h2.keepIn hs hb⟩
theorem HeldR.keepIn {w w' : World} {B T : Nat} {v : Value} {k0 : Int} {L : List VM} (h : HeldR w B T v k0 L) (hs : w.heap.size ≤ w'.heap.size) (hb : ∀ b, B ≤ b → b < T → w'.heap[b]? = w.heap[b]?) : HeldR w' B T v k0 L := by
  obtain ⟨h1, a, cap, rfl, h2⟩ := h
  refine ⟨Nat.le_trans h1 hs, a, cap, rfl, ?_⟩
  rcases h2 with h2 | ⟨g, rfl, h2⟩
  · exact .inl h2
  · exact .inr ⟨g, rfl, h2.keepIn hs hb⟩
theorem OwnR.keep {w w' : World} {B T : Nat} {v : Value} {L : List VM} (h : OwnR w B T v L) (hb : Below w.heap.size w w') : OwnR w' B T v L :=
  h.keepIn hb.size fun b _ hT => hb.block b (Nat.lt_of_lt_of_le hT h.1)
theorem HeldR.keep {w w' : World} {B T : Nat} {v : Value} {k0 : Int} {L : List VM} (h : HeldR w B T v k0 L) (hb : Below w.heap.size w w') : HeldR w' B T v k0 L :=
  h.keepIn hb.size fun b _ hT => hb.block b (Nat.lt_of_lt_of_le hT h.1)
theorem OwnR.weaken {w : World} {B B' T : Nat} {v : Value} {L : List VM} (h : OwnR w B T v L) (hB : B' ≤ B) : OwnR w B' T v L := by
  obtain ⟨h1, a, cap, rfl, h2⟩ := h
  refine ⟨h1, a, cap, rfl, ?_⟩
  rcases h2 with h2 | ⟨g, rfl, h2⟩
  · exact .inl h2
  · exact .inr ⟨g, rfl, ⟨h2.vs.lt, Nat.le_trans hB h2.vs.lo, h2.vs.fr, h2.vs.cell, fun i hi => ⟨(h2.vs.own i hi).1.weaken hB, (h2.vs.own i hi).2.weaken hB⟩⟩, h2.sep, h2.hi, h2.his⟩
theorem OwnR.raise {w : World} {B T T' : Nat} {v : Value} {L : List VM} (h : OwnR w B T v L) (hT : T ≤ T') (hw : T' ≤ w.heap.size) : OwnR w B T' v L := by
  obtain ⟨h1, a, cap, rfl, h2⟩ := h
  refine ⟨hw, a, cap, rfl, ?_⟩
  rcases h2 with h2 | ⟨g, rfl, h2⟩
  · exact .inl h2
  · exact .inr ⟨g, rfl, h2.vs, h2.sep, Nat.lt_of_lt_of_le h2.hi hT, fun i hi b hb => Nat.lt_of_lt_of_le (h2.his i hi b hb) hT⟩
theorem OwnR.form {w : World} {B T : Nat} {v : Value} {L : List VM} (h : OwnR w B T v L) : ∃ a cap, v = .slice a L.length cap ∧ SlV w a L := by
  obtain ⟨_, a, cap, rfl, h2⟩ := h
  refine ⟨a, cap, rfl, ?_⟩
  rcases h2 with h2 | ⟨g, rfl, h2⟩
  · exact .inl h2
  · exact .inr ⟨g, 0, rfl, h2.vs.at⟩

theorem OwnR.nil (w : World) (B : Nat) (a : Option Addr) (c : Nat) : OwnR w B w.heap.size (.slice a 0 c) [] := ⟨Nat.le_refl _, a, c, rfl, .inl rfl⟩
/-- A list whose votes each lie in their own memory, in a row of one's own. -/
theorem OwnR.ofVs {w : World} {B g cap : Nat} {L : List VM} (h : OwnVs w B g L) (s : Sep g L) : OwnR w B w.heap.size (.slice (some ⟨g, 0, none⟩) L.length cap) L :=
  ⟨Nat.le_refl _, _, cap, rfl, .inr ⟨g, rfl, h, s, h.lt, fun i hi b hb => by
    rcases hb with hb | hb
    · exact ((h.own i hi).1.blkLt b hb).2
    · exact ((h.own i hi).2.blkLt b hb).2⟩⟩
theorem OwnR.ofL {w : World} {B : Nat} {v : Value} {L : List VM} (h : OwnL w B v L) : OwnR w B w.heap.size v L := by
  by_cases h0 : L = []
  · subst h0
    obtain ⟨a, cap, rfl⟩ := h.form
    exact OwnR.nil w B a cap
  · obtain ⟨g, cap, rfl, _, hv, hs⟩ := h.vs h0
    exact OwnR.ofVs hv hs
theorem OwnR.ofCopy {w : World} {B b n cap : Nat} {gs : List (Nat × Nat)} {bs : List V} (h : CopyV w b gs bs) (r : RowV w b n) (hB : B ≤ b) (hn : n = bs.length) : OwnR w B w.heap.size (.slice (some ⟨b, 0, none⟩) n cap) (vmsOf gs bs) := by
  have hl := vmsOf_len gs bs
  have k1 : ∀ i, i < bs.length → ∀ b', blk1 (vmOf (gs.getD i (0, 0)) (bs.getD i (0, e0))) = some b' → b' = (gs.getD i (0, 0)).1 := fun i hi b' e => by
    unfold blk1 blkOf vmOf at e
    split at e
    · cases e
    · simpa using e.symm
  have k2 : ∀ i, i < bs.length → ∀ b', blk2 (vmOf (gs.getD i (0, 0)) (bs.getD i (0, e0))) = some b' → b' = (gs.getD i (0, 0)).2 := fun i hi b' e => by
    unfold blk2 blkOf vmOf at e
    split at e
    · cases e
    · simpa using e.symm
  have kk : ∀ i, i < bs.length → ∀ b', (blk1 (vmOf (gs.getD i (0, 0)) (bs.getD i (0, e0))) = some b' ∨ blk2 (vmOf (gs.getD i (0, 0)) (bs.getD i (0, e0))) = some b') → b' = (gs.getD i (0, 0)).1 ∨ b' = (gs.getD i (0, 0)).2 := fun i hi b' e => by
    rcases e with e | e
    · exact .inl (k1 i hi b' e)
    · exact .inr (k2 i hi b' e)
  have hv : OwnVs w B b (vmsOf gs bs) := by
    refine ⟨h.lt, hB, r.frozen, fun i hi => ?_, fun i hi => ?_⟩
    · rw [hl] at hi
      rw [vmsOf_at gs bs hi]
      exact (h.cell i hi).1
    · rw [hl] at hi
      rw [vmsOf_at gs bs hi]
      obtain ⟨o1, o2, o3, o4, o5, o6, o7⟩ := h.own i hi
      exact ⟨.inr ⟨_, rfl, by omega, o4, o6.frozen⟩, .inr ⟨_, rfl, by omega, o5, o7.frozen⟩⟩
  have hs : Sep b (vmsOf gs bs) := by
    refine ⟨fun i hi => ?_, fun i hi b' e e2 => ?_, fun i j hi hj hne b' e => ?_⟩
    · rw [hl] at hi
      rw [vmsOf_at gs bs hi]
      obtain ⟨o1, o2, _⟩ := h.own i hi
      exact ⟨fun e => by have := k1 i hi b e; omega, fun e => by have := k2 i hi b e; omega⟩
    · rw [hl] at hi
      rw [vmsOf_at gs bs hi] at e e2
      obtain ⟨o1, o2, o3, _⟩ := h.own i hi
      have := k1 i hi b' e
      have := k2 i hi b' e2
      omega
    · rw [hl] at hi hj
      rw [vmsOf_at gs bs hi] at e
      rw [vmsOf_at gs bs hj]
      have e' := kk i hi b' e
      rcases Nat.lt_or_gt_of_ne hne with lt | lt
      · have a := h.asc i j lt hj b' e'
        exact ⟨fun e2 => by have := k1 j hj b' e2; omega, fun e2 => by have := k2 j hj b' e2; omega⟩
      · exact ⟨fun e2 => by have a := h.asc j i lt hi b' (.inl (k1 j hj b' e2)); omega, fun e2 => by have a := h.asc j i lt hi b' (.inr (k2 j hj b' e2)); omega⟩
  have := OwnR.ofVs (cap := cap) hv hs
  rw [hl, ← hn] at this
  exact this

/-- Nothing has turned but what lies from block B on and below block T. -/
structure OutR (B T : Nat) (w w' : World) : Prop where
  size : w'.heap.size = w.heap.size
  os : w'.os = w.os
  tape : w'.tape = w.tape
  output : w'.output = w.output
  block : ∀ b, (b < B ∨ T ≤ b) → w'.heap[b]? = w.heap[b]?
theorem OutR.refl (B T : Nat) (w : World) : OutR B T w w := ⟨rfl, rfl, rfl, rfl, fun _ _ => rfl⟩
theorem OutR.below {B T : Nat} {w w' : World} (h : OutR B T w w') : Below B w w' := ⟨h.os, h.tape, h.output, Nat.le_of_eq h.size.symm, fun k hk => h.block k (.inl hk)⟩
theorem OwnR.out {w w' : World} {B T B' T' : Nat} {v : Value} {L : List VM} (h : OwnR w B T v L) (o : OutR B' T' w w') (hd : T ≤ B' ∨ T' ≤ B) : OwnR w' B T v L :=
  h.keepIn (Nat.le_of_eq o.size.symm) fun b h1 h2 => o.block b (by omega)
theorem HeldR.out {w w' : World} {B T B' T' : Nat} {v : Value} {k0 : Int} {L : List VM} (h : HeldR w B T v k0 L) (o : OutR B' T' w w') (hd : T ≤ B' ∨ T' ≤ B) : HeldR w' B T v k0 L :=
  h.keepIn (Nat.le_of_eq o.size.symm) fun b h1 h2 => o.block b (by omega)

theorem markR (B T : Nat) (v : Value) (L : List VM) (k0 : Int) (w : World) (h : OwnR w B T v L) (hn : L.length ≤ 2 ^ 30) (hk0 : 0 ≤ k0) (hk1 : k0 ≤ 2 ^ 30) (hs : stepsV L L.length ≤ 2 ^ 30) :
    Calls Try.prog 39 #[v, .int .i64 k0] w fun e w' => e = .returned (.int .i64 (k0 + (stepsV L L.length : Nat))) ∧ HeldR w' B T v k0 L ∧ OutR B T w w' := by
  obtain ⟨hT, a, cap, rfl, h2⟩ := h
  rcases h2 with h2 | ⟨g, rfl, h2⟩
  · subst h2
    refine (markVoteS0 a cap k0 w).mono ?_
    rintro e w' ⟨rfl, rfl⟩
    exact ⟨by simp [stepsV], ⟨hT, a, cap, rfl, .inl rfl⟩, OutR.refl _ _ _⟩
  · refine (markVoteS g cap B L k0 w h2.vs h2.sep hn hk0 hk1 hs).mono ?_
    rintro e w' ⟨rfl, h3, h4⟩
    refine ⟨rfl, ⟨by rw [h4.size]; exact hT, _, cap, rfl, .inr ⟨g, rfl, h3, h2.sep.mix k0 _, h2.hi, fun i hi b hb => ?_⟩⟩, h4.size, h4.os, h4.tape, h4.output, fun b hb => h4.block b ?_ fun i hi => ⟨fun e => ?_, fun e => ?_⟩⟩
    · rw [mixV_len] at hi
      have := mix_blk k0 L L.length hi
      rw [this.1, this.2] at hb
      exact h2.his i hi b hb
    · have := h2.vs.lo
      have := h2.hi
      omega
    · have := h2.his i hi b (.inl e)
      have := ((h2.vs.own i hi).1.blkLt b e).1
      omega
    · have := h2.his i hi b (.inr e)
      have := ((h2.vs.own i hi).2.blkLt b e).1
      omega
theorem heldR (B T : Nat) (v : Value) (L : List VM) (k0 : Int) (w : World) (h : HeldR w B T v k0 L) (hn : L.length ≤ 2 ^ 30) (hk0 : 0 ≤ k0) (hk1 : k0 ≤ 2 ^ 30) (hs : stepsV L L.length ≤ 2 ^ 30) :
    Calls Try.prog 40 #[v, .int .i64 k0] w fun e w' => e = .returned (.int .i64 (k0 + (stepsV L L.length : Nat))) ∧ w' = w := by
  obtain ⟨hT, a, cap, rfl, h2⟩ := h
  rcases h2 with h2 | ⟨g, rfl, h2⟩
  · subst h2
    refine (heldVoteS0 a cap k0 w).mono ?_
    rintro e w' ⟨rfl, rfl⟩
    exact ⟨by simp [stepsV], rfl⟩
  · exact heldVoteS g cap B L k0 w h2.vs hn hk0 hk1 hs
/-- Two lists of the same votes are told the same. -/
theorem eqR (B T B' T' : Nat) (v u : Value) (L M : List VM) (w : World) (h1 : OwnR w B T v L) (h2 : OwnR w B' T' u M) (hb : bodies L = bodies M) (hn : L.length ≤ 2 ^ 40) (hl : ∀ i, i < L.length → (L.getD i v0).b.xs.length ≤ 2 ^ 40 ∧ (L.getD i v0).b.ys.length ≤ 2 ^ 40) :
    Calls Try.prog 38 #[v, u] w fun e w' => e = .returned (.bool true) ∧ Below w.heap.size w w' := by
  obtain ⟨a, c, rfl, s1⟩ := h1.form
  obtain ⟨b, d, rfl, s2⟩ := h2.form
  exact eqVoteS a b c d L M w s1 s2 hb hn hl

/-- How many numbers the marks of votes take, by what they say alone. -/
def stepB (x : V) : Nat := 6 + 2 * x.2.xs.length + 2 * x.2.ys.length
theorem stepsV_le (L : List VM) (K : Nat) (h : ∀ i, i < L.length → stepV (L.getD i v0) ≤ K) : ∀ j, j ≤ L.length → stepsV L j ≤ j * K := by
  intro j
  induction j with
  | zero => intro _; simp [stepsV]
  | succ j ih =>
    intro hj
    have := ih (by omega)
    have := h j (by omega)
    simp only [stepsV, Nat.succ_mul]
    omega
/-- By the sum of what they have looked at and put. -/
theorem stepsV_sum (L : List VM) : ∀ j, stepsV L j = 6 * j + 2 * sumV L j := by
  intro j
  induction j with
  | zero => rfl
  | succ j ih => simp only [stepsV, sumV, stepV]; omega
theorem sumV_body {L M : List VM} (h : ∀ i, (L.getD i v0).body = (M.getD i v0).body) : ∀ j, sumV L j = sumV M j := by
  intro j
  induction j with
  | zero => rfl
  | succ j ih =>
    simp only [sumV]
    rw [ih, (body_eq (h j)).2]
theorem stepsV_body {L M : List VM} (h : bodies L = bodies M) : stepsV L L.length = stepsV M M.length := by
  obtain ⟨hl, hb⟩ := bodies_eq h
  rw [stepsV_sum, stepsV_sum, hl, sumV_body hb]
end Go.Proofs.Ytbbbfnfpmaogoaa.Own
