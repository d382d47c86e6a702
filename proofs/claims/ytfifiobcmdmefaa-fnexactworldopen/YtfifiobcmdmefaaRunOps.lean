/-
  Own text: what laws.szRun and toRun do.
-/
import Derived.Test.YtfifiobcmdmefaaToR
import Derived.Test.YtfifiobcmdmefaaToP
import Derived.Test.YtfifiobcmdmefaaRunEq
namespace Go.Proofs.Ytfifiobcmdmefaa.Own
open Go.RowKit
set_option linter.unusedVariables false
set_option linter.unusedSimpArgs false

set_option maxHeartbeats 1000000 in
theorem szRun (a1 a2 : Option Addr) (n1 c1 n2 c2 : Nat) (v k left : Int) (w : World) (h1 : n1 ≤ maxLen) (h2 : n2 ≤ maxLen) (h0 : 0 ≤ left) (hm : left ≤ 2 ^ 60) :
    Calls Try.prog 167 #[.agg #[.slice a1 n1 c1, .slice a2 n2 c2, .int .i64 v, .int .i64 k], .int .i64 left] w fun e w' => e = .returned (.int .i64 (if left - n1 - n2 < 0 then -1 else left - n1 - n2)) ∧ Below w.heap.size w w' := by
  have B0 : ∀ o, Hid (Below w.heap.size w (w.alloc o)) := fun o => (Below.refl _ _).alloc (Nat.le_refl _) _
  by_cases t : left - n1 < 0
  · rw [if_pos (by omega)]
    go_enter Try.func167, Try.ntmps167
    go_wp2_with fail
    refine (szReadS a1 n1 c1 left _ h1 h0 hm).mono ?_
    rintro e w1 ⟨rfl, rfl⟩
    rw [if_pos t]
    go_wp2_with fail
    go_ret
    exact ⟨rfl, (B0 _).out⟩
  · go_enter Try.func167, Try.ntmps167
    go_wp2_with fail
    refine (szReadS a1 n1 c1 left _ h1 h0 hm).mono ?_
    rintro e w1 ⟨rfl, rfl⟩
    rw [if_neg (by omega)]
    have t' : ¬ left - (n1 : Int) < 0 := by omega
    go_wp2_with fail
    refine (szPutS a2 n2 c2 (left - n1) _ h2 (by omega) (by omega)).mono ?_
    rintro e w1 ⟨rfl, rfl⟩
    by_cases t2 : left - n1 - n2 < 0
    · rw [if_pos t2]
      go_wp2_with fail
      go_ret
      exact ⟨rfl, (B0 _).out⟩
    · rw [if_neg t2]
      go_wp2_with fail
      go_ret
      exact ⟨rfl, (B0 _).out⟩

/-- The blocks from N on are as they were. -/
def KeepFrom (N : Nat) (w w' : World) : Prop := w'.heap.size = w.heap.size ∧ ∀ k, N ≤ k → w'.heap[k]? = w.heap[k]?
theorem KeepFrom.refl (N : Nat) (w : World) : KeepFrom N w w := ⟨rfl, fun _ _ => rfl⟩
theorem KeepFrom.setCell {N : Nat} {a w : World} (h : KeepFrom N a w) {p : Addr} (hp : p.block < N) (v : Value) : KeepFrom N a (w.setCell p v) :=
  ⟨by simpa [World.setCell] using h.1, fun k hk => by rw [Below.heap_setCell _ _ _ _ (by omega)]; exact h.2 k hk⟩
theorem BoxAt.block {w w' : World} {b off : Nat} {xs : List P2} (h : BoxAt w b off xs) (hs : w.heap.size ≤ w'.heap.size) (hb : w'.heap[b]? = w.heap[b]?) : BoxAt w' b off xs :=
  ⟨Nat.lt_of_lt_of_le h.1 hs, fun i hi => by
    rw [World.cell?_of_block (w := w) (a := ⟨b, off + i * 2, none⟩) hb, World.cell?_of_block (w := w) (a := ⟨b, off + i * 2 + 1, none⟩) hb]; exact h.2 i hi⟩
theorem RowR.block {w w' : World} {b n : Nat} (h : RowR w b n) (hb : w'.heap[b]? = w.heap[b]?) : RowR w' b n := by
  obtain ⟨C, h1, h2⟩ := h
  exact ⟨C, by rw [hb]; exact h1, h2⟩
theorem RowP.block {w w' : World} {b n : Nat} (h : RowP w b n) (hb : w'.heap[b]? = w.heap[b]?) : RowP w' b n := by
  obtain ⟨C, h1, h2⟩ := h
  exact ⟨C, by rw [hb]; exact h1, h2⟩

/-- A run in memory of its own: two rows. -/
def RunOwn (w : World) (B g1 g2 : Nat) (xs ys : List P2) : Prop := B ≤ g1 ∧ B ≤ g2 ∧ g1 ≠ g2 ∧ BoxAt w g1 0 xs ∧ BoxAt w g2 0 ys ∧ RowR w g1 xs.length ∧ RowP w g2 ys.length

theorem RunOwn.below {w w' : World} {B g1 g2 : Nat} {xs ys : List P2} (h : RunOwn w B g1 g2 xs ys) (hb : Below w.heap.size w w') : RunOwn w' B g1 g2 xs ys :=
  ⟨h.1, h.2.1, h.2.2.1, h.2.2.2.1.below hb, h.2.2.2.2.1.below hb, h.2.2.2.2.2.1.below hb h.2.2.2.1.1, h.2.2.2.2.2.2.below hb h.2.2.2.2.1.1⟩

theorem RunOwn.keep {w w' : World} {B N g1 g2 : Nat} {xs ys : List P2} (h : RunOwn w B g1 g2 xs ys) (hk : KeepFrom N w w') (h1 : N ≤ g1) (h2 : N ≤ g2) : RunOwn w' B g1 g2 xs ys :=
  ⟨h.1, h.2.1, h.2.2.1, h.2.2.2.1.block (Nat.le_of_eq hk.1.symm) (hk.2 _ h1), h.2.2.2.2.1.block (Nat.le_of_eq hk.1.symm) (hk.2 _ h2), h.2.2.2.2.2.1.block (hk.2 _ h1), h.2.2.2.2.2.2.block (hk.2 _ h2)⟩

set_option maxRecDepth 100000 in
set_option maxHeartbeats 1000000 in
theorem toRun (a1 a2 : Option Addr) (c1 c2 : Nat) (xs ys : List P2) (v k : Int) (w : World) (h1 : Sl w a1 xs) (h2 : Sl w a2 ys) (hn1 : xs.length ≤ 2 ^ 40) (hn2 : ys.length ≤ 2 ^ 40) :
    Calls Try.prog 169 #[.agg #[.slice a1 xs.length c1, .slice a2 ys.length c2, .int .i64 v, .int .i64 k]] w fun e w' => ∃ g1 g2, e = .returned (.agg #[.slice (some ⟨g1, 0, none⟩) xs.length xs.length, .slice (some ⟨g2, 0, none⟩) ys.length ys.length, .int .i64 v, .int .i64 k]) ∧ RunOwn w' w.heap.size g1 g2 xs ys ∧ Below w.heap.size w w' := by
  have H1 : Hid (Sl w a1 xs) := h1
  have H2 : Hid (Sl w a2 ys) := h2
  clear h1 h2
  obtain ⟨W, hW⟩ : ∃ W, W = ((w.alloc (.cells #[.slice a1 xs.length c1, .slice a2 ys.length c2, .int .i64 v, .int .i64 k] 166)).alloc (.cells #[.slice none 0 0, .slice none 0 0, .int .i64 0, .int .i64 0] 31)).alloc (.cells #[.slice none 0 0, .slice none 0 0, .int .i64 0, .int .i64 0] 31) := ⟨_, rfl⟩
  have hbW : Hid (Below w.heap.size w W) := by
    show Below _ _ _
    rw [hW]; exact (((Below.refl _ _).alloc (Nat.le_refl _) _).alloc (by simp) _).alloc (by simp; omega) _
  have hsW : Hid (W.heap.size = w.heap.size + 3) := by show _ = _; rw [hW]; simp
  have g0 : Hid (W.heap[w.heap.size]? = some (.cells #[.slice a1 xs.length c1, .slice a2 ys.length c2, .int .i64 v, .int .i64 k] 166 (0, 0))) := by
    show _ = _
    rw [hW, heap_old _ _ _ (by simp; omega), heap_old _ _ _ (by simp)]; exact heap_new _ _
  have g1 : Hid (W.heap[w.heap.size + 1]? = some (.cells #[.slice none 0 0, .slice none 0 0, .int .i64 0, .int .i64 0] 31 (0, 0))) := by
    show _ = _
    rw [hW, heap_old _ _ _ (by simp)]; exact heap_new2 _ _ _
  have g2 : Hid (W.heap[w.heap.size + 1 + 1]? = some (.cells #[.slice none 0 0, .slice none 0 0, .int .i64 0, .int .i64 0] 31 (0, 0))) := by
    show _ = _
    rw [hW]
    have := heap_new ((w.alloc (.cells #[.slice a1 xs.length c1, .slice a2 ys.length c2, .int .i64 v, .int .i64 k] 166)).alloc (.cells #[.slice none 0 0, .slice none 0 0, .int .i64 0, .int .i64 0] 31)) (.cells #[.slice none 0 0, .slice none 0 0, .int .i64 0, .int .i64 0] 31)
    rw [size_new, size_new] at this
    exact this
  have HW : Hid (W = _) := hW
  clear hW
  go_enter Try.func169, Try.ntmps169
  go_wp2_with fail
  rw [← HW.out]
  refine (toReadS a1 c1 xs W (H1.out.below hbW.out) hn1).mono ?_
  rintro e w1 ⟨rfl, at1, row1, b1⟩
  have z0 := b1.block w.heap.size (by have := hsW.out; omega)
  have z1 := b1.block (w.heap.size + 1) (by have := hsW.out; omega)
  have z2 := b1.block (w.heap.size + 1 + 1) (by have := hsW.out; omega)
  rw [g0.out] at z0
  rw [g1.out] at z1
  rw [g2.out] at z2
  have G0 : Hid (w1.heap[w.heap.size]? = _) := z0
  have G1 : Hid (w1.heap[w.heap.size + 1]? = _) := z1
  have G2 : Hid (w1.heap[w.heap.size + 1 + 1]? = _) := z2
  have A1 : Hid (BoxAt w1 W.heap.size 0 xs) := at1
  have R1 : Hid (RowR w1 W.heap.size xs.length) := row1
  have B1 : Hid (Below w.heap.size w w1) := hbW.out.trans (b1.mono (by have := hsW.out; omega))
  have S1 : Hid (W.heap.size < w1.heap.size) := at1.1
  clear at1 row1 b1 z0 z1 z2
  have q0 : w1.cell? ⟨w.heap.size + 1 + 1, 0, none⟩ = some (.slice none 0 0) := by rw [cell_heap G2.out]; rfl
  have f0 : w1.frozen? ⟨w.heap.size + 1 + 1, 0, none⟩ = false := frozen_heap G2.out _
  have q1 : w1.cell? ⟨w.heap.size, 1, none⟩ = some (.slice a2 ys.length c2) := by rw [cell_heap G0.out]; rfl
  go_wp2_with fail
  obtain ⟨W2, hW2⟩ : ∃ W2, W2 = w1.setCell ⟨w.heap.size + 1 + 1, 0, none⟩ (.slice (some ⟨W.heap.size, 0, none⟩) xs.length xs.length) := ⟨_, rfl⟩
  have K2 : Hid (KeepFrom (w.heap.size + 3) w1 W2) := by show KeepFrom _ _ _; rw [hW2]; exact (KeepFrom.refl _ _).setCell (by show w.heap.size + 1 + 1 < _; omega) _
  have B2 : Hid (Below w.heap.size w W2) := by show Below _ _ _; rw [hW2]; exact B1.out.setCell (by show w.heap.size ≤ w.heap.size + 1 + 1; omega) _
  have r0 : Hid (W2.cell? ⟨w.heap.size + 1 + 1, 0, none⟩ = some (.slice (some ⟨W.heap.size, 0, none⟩) xs.length xs.length)) := by show _ = _; rw [hW2]; exact setCell_cell_same _ _ _ _ _ q0
  have r1 : Hid (∀ o, o ≠ 0 → W2.cell? ⟨w.heap.size + 1 + 1, o, none⟩ = w1.cell? ⟨w.heap.size + 1 + 1, o, none⟩) := fun o ho => by rw [hW2]; exact setCell_cell_other _ _ _ _ _ (fun e => ho e.symm)
  have r2 : Hid (∀ b o, b ≠ w.heap.size + 1 + 1 → W2.cell? ⟨b, o, none⟩ = w1.cell? ⟨b, o, none⟩) := fun b o hb => by rw [hW2]; exact World.cell?_setCell_other _ _ _ _ (by intro e; injection e with e1; exact hb e1.symm)
  have r3 : Hid (∀ b o, W2.frozen? ⟨b, o, none⟩ = w1.frozen? ⟨b, o, none⟩) := fun b o => by rw [hW2]; simp
  have HW2 : Hid (W2 = _) := hW2
  rw [← HW2.out]
  clear hW2 q0 f0 q1
  refine (toPutS a2 c2 ys W2 (H2.out.below B2.out) hn2).mono ?_
  rintro e w2 ⟨rfl, at2, row2, b2⟩
  have S2 : Hid (W2.heap.size = w1.heap.size) := K2.out.1
  have cc : ∀ b o, b < W.heap.size → w2.cell? ⟨b, o, none⟩ = W2.cell? ⟨b, o, none⟩ := fun b o hb => b2.cell (p := ⟨b, o, none⟩) (by have := S2.out; have := S1.out; show b < _; omega)
  have ff : ∀ b o, b < W.heap.size → w2.frozen? ⟨b, o, none⟩ = W2.frozen? ⟨b, o, none⟩ := fun b o hb => b2.frozen (p := ⟨b, o, none⟩) (by have := S2.out; have := S1.out; show b < _; omega)
  have hs := hsW.out
  have p2 : w2.cell? ⟨w.heap.size, 2, none⟩ = some (.int .i64 v) := by rw [cc _ _ (by omega), r2.out _ _ (by omega), cell_heap G0.out]; rfl
  have p3 : w2.cell? ⟨w.heap.size, 3, none⟩ = some (.int .i64 k) := by rw [cc _ _ (by omega), r2.out _ _ (by omega), cell_heap G0.out]; rfl
  have o0 : w2.cell? ⟨w.heap.size + 1 + 1, 0, none⟩ = some (.slice (some ⟨W.heap.size, 0, none⟩) xs.length xs.length) := by rw [cc _ _ (by omega)]; exact r0.out
  have o1 : w2.cell? ⟨w.heap.size + 1 + 1, 1, none⟩ = some (.slice none 0 0) := by rw [cc _ _ (by omega), r1.out _ (by omega), cell_heap G2.out]; rfl
  have o2 : w2.cell? ⟨w.heap.size + 1 + 1, 2, none⟩ = some (.int .i64 0) := by rw [cc _ _ (by omega), r1.out _ (by omega), cell_heap G2.out]; rfl
  have o3 : w2.cell? ⟨w.heap.size + 1 + 1, 3, none⟩ = some (.int .i64 0) := by rw [cc _ _ (by omega), r1.out _ (by omega), cell_heap G2.out]; rfl
  have i0 : w2.cell? ⟨w.heap.size + 1, 0, none⟩ = some (.slice none 0 0) := by rw [cc _ _ (by omega), r2.out _ _ (by omega), cell_heap G1.out]; rfl
  have i1 : w2.cell? ⟨w.heap.size + 1, 1, none⟩ = some (.slice none 0 0) := by rw [cc _ _ (by omega), r2.out _ _ (by omega), cell_heap G1.out]; rfl
  have i2 : w2.cell? ⟨w.heap.size + 1, 2, none⟩ = some (.int .i64 0) := by rw [cc _ _ (by omega), r2.out _ _ (by omega), cell_heap G1.out]; rfl
  have i3 : w2.cell? ⟨w.heap.size + 1, 3, none⟩ = some (.int .i64 0) := by rw [cc _ _ (by omega), r2.out _ _ (by omega), cell_heap G1.out]; rfl
  have fo : ∀ o, w2.frozen? ⟨w.heap.size + 1 + 1, o, none⟩ = false := fun o => by rw [ff _ _ (by omega), r3.out]; exact frozen_heap G2.out _
  have fi : ∀ o, w2.frozen? ⟨w.heap.size + 1, o, none⟩ = false := fun o => by rw [ff _ _ (by omega), r3.out]; exact frozen_heap G1.out _
  have AT : Hid (RunOwn w2 w.heap.size W.heap.size W2.heap.size xs ys) := by
    have e1 := (b2.block W.heap.size (by have := S2.out; have := S1.out; omega)).trans (K2.out.2 W.heap.size (by omega))
    exact ⟨by omega, by have := S2.out; have := S1.out; omega, by have := S2.out; have := S1.out; omega, A1.out.block (by have := S2.out; have := b2.size; omega) e1, at2, R1.out.block e1, row2⟩
  have B3 : Hid (Below w.heap.size w w2) := B2.out.trans (b2.mono B2.out.size)
  have SN : Hid (w.heap.size + 3 ≤ W.heap.size ∧ w.heap.size + 3 ≤ W2.heap.size) := ⟨by omega, by have := S2.out; have := S1.out; omega⟩
  clear at2 row2 b2 cc ff hs
  go_wp2
  refine bodyPost_ret (v := .agg #[.slice (some ⟨W.heap.size, 0, none⟩) xs.length xs.length, .slice (some ⟨W2.heap.size, 0, none⟩) ys.length ys.length, .int .i64 v, .int .i64 k]) (by simp [results, Try.results169, go_sem, i0, i1, i2, i3]) rfl ⟨W.heap.size, W2.heap.size, rfl, ?_, ?_⟩
  · have KK : KeepFrom (w.heap.size + 3) w2 _ := (((((((KeepFrom.refl (w.heap.size + 3) w2).setCell (p := ⟨w.heap.size + 1 + 1, 1, none⟩) (by show w.heap.size + 1 + 1 < _; omega) (.slice (some ⟨W2.heap.size, 0, none⟩) ys.length ys.length)).setCell (p := ⟨w.heap.size + 1 + 1, 2, none⟩) (by show w.heap.size + 1 + 1 < _; omega) (.int .i64 v)).setCell (p := ⟨w.heap.size + 1 + 1, 3, none⟩) (by show w.heap.size + 1 + 1 < _; omega) (.int .i64 k)).setCell (p := ⟨w.heap.size + 1, 0, none⟩) (by show w.heap.size + 1 < _; omega) (.slice (some ⟨W.heap.size, 0, none⟩) xs.length xs.length)).setCell (p := ⟨w.heap.size + 1, 1, none⟩) (by show w.heap.size + 1 < _; omega) (.slice (some ⟨W2.heap.size, 0, none⟩) ys.length ys.length)).setCell (p := ⟨w.heap.size + 1, 2, none⟩) (by show w.heap.size + 1 < _; omega) (.int .i64 v)).setCell (p := ⟨w.heap.size + 1, 3, none⟩) (by show w.heap.size + 1 < _; omega) (.int .i64 k)
    exact AT.out.keep KK SN.out.1 SN.out.2
  · exact ((((((B3.out.setCell (by show w.heap.size ≤ w.heap.size + 1 + 1; omega) _).setCell (by show w.heap.size ≤ w.heap.size + 1 + 1; omega) _).setCell (by show w.heap.size ≤ w.heap.size + 1 + 1; omega) _).setCell (by show w.heap.size ≤ w.heap.size + 1; omega) _).setCell (by show w.heap.size ≤ w.heap.size + 1; omega) _).setCell (by show w.heap.size ≤ w.heap.size + 1; omega) _).setCell (by show w.heap.size ≤ w.heap.size + 1; omega) _

end Go.Proofs.Ytfifiobcmdmefaa.Own
