/-
  Own texts, bundled: RunOps, EntOps.
-/
import Derived.Test.YtbecdihfopjlhaaGreatDoorPk33
import Derived.Test.YtbecdihfopjlhaaGreatDoorPk34
import Derived.Test.YtbecdihfopjlhaaGreatDoorPk1
namespace Go.Proofs.YtbecdihfopjlhaaGreatDoor.Own
open Go.RowKit
set_option linter.unusedVariables false
set_option linter.unusedSimpArgs false

set_option maxHeartbeats 1000000 in
theorem szRun (a1 a2 : Option Addr) (n1 c1 n2 c2 : Nat) (v k left : Int) (w : World) (h1 : n1 ≤ maxLen) (h2 : n2 ≤ maxLen) (h0 : 0 ≤ left) (hm : left ≤ 2 ^ 60) :
    Calls Tryz.prog 55 #[.agg #[.slice a1 n1 c1, .slice a2 n2 c2, .int .i64 v, .int .i64 k], .int .i64 left] w fun e w' => e = .returned (.int .i64 (if left - n1 - n2 < 0 then -1 else left - n1 - n2)) ∧ Below w.heap.size w w' := by
  have B0 : ∀ o, Hid (Below w.heap.size w (w.alloc o)) := fun o => (Below.refl _ _).alloc (Nat.le_refl _) _
  by_cases t : left - n1 < 0
  · rw [if_pos (by omega)]
    go_enter Tryz.func55, Tryz.ntmps55
    go_wp2_with fail
    refine (szReadS a1 n1 c1 left _ h1 h0 hm).mono ?_
    rintro e w1 ⟨rfl, rfl⟩
    rw [if_pos t]
    go_wp2_with fail
    go_ret
    exact ⟨rfl, (B0 _).out⟩
  · go_enter Tryz.func55, Tryz.ntmps55
    go_wp2_with fail
    refine (szReadS a1 n1 c1 left _ h1 h0 hm).mono ?_
    rintro e w1 ⟨rfl, rfl⟩
    rw [if_neg (by omega)]
    have t' : ¬ left - (n1 : Int) < 0 := by omega
    go_wp2_with fail
    refine (szPutS a2 n2 c2 (left - n1) _ h2 (by omega) (by omega)).mono ?_
    rintro e w1 ⟨rfl, rfl⟩
    by_cases t2 : left - n1 - n2 < 0
    · rw [if_pos t2]
      go_wp2_with fail
      go_ret
      exact ⟨rfl, (B0 _).out⟩
    · rw [if_neg t2]
      go_wp2_with fail
      go_ret
      exact ⟨rfl, (B0 _).out⟩

/-- The blocks from N on are as they were. -/
def KeepFrom (N : Nat) (w w' : World) : Prop := w'.heap.size = w.heap.size ∧ ∀ k, N ≤ k → w'.heap[k]? = w.heap[k]?
theorem KeepFrom.refl (N : Nat) (w : World) : KeepFrom N w w := ⟨rfl, fun _ _ => rfl⟩
theorem KeepFrom.setCell {N : Nat} {a w : World} (h : KeepFrom N a w) {p : Addr} (hp : p.block < N) (v : Value) : KeepFrom N a (w.setCell p v) :=
  ⟨by simpa [World.setCell] using h.1, fun k hk => by rw [Below.heap_setCell _ _ _ _ (by omega)]; exact h.2 k hk⟩
theorem BoxAt.block {w w' : World} {b off : Nat} {xs : List P2} (h : BoxAt w b off xs) (hs : w.heap.size ≤ w'.heap.size) (hb : w'.heap[b]? = w.heap[b]?) : BoxAt w' b off xs :=
  ⟨Nat.lt_of_lt_of_le h.1 hs, fun i hi => by
    rw [World.cell?_of_block (w := w) (a := ⟨b, off + i * 2, none⟩) hb, World.cell?_of_block (w := w) (a := ⟨b, off + i * 2 + 1, none⟩) hb]; exact h.2 i hi⟩
theorem RowR.block {w w' : World} {b n : Nat} (h : RowR w b n) (hb : w'.heap[b]? = w.heap[b]?) : RowR w' b n := by
  obtain ⟨C, h1, h2⟩ := h
  exact ⟨C, by rw [hb]; exact h1, h2⟩
theorem RowP.block {w w' : World} {b n : Nat} (h : RowP w b n) (hb : w'.heap[b]? = w.heap[b]?) : RowP w' b n := by
  obtain ⟨C, h1, h2⟩ := h
  exact ⟨C, by rw [hb]; exact h1, h2⟩

/-- A run in memory of its own: two rows. -/
def RunOwn (w : World) (B g1 g2 : Nat) (xs ys : List P2) : Prop := B ≤ g1 ∧ B ≤ g2 ∧ g1 ≠ g2 ∧ BoxAt w g1 0 xs ∧ BoxAt w g2 0 ys ∧ RowR w g1 xs.length ∧ RowP w g2 ys.length

theorem RunOwn.below {w w' : World} {B g1 g2 : Nat} {xs ys : List P2} (h : RunOwn w B g1 g2 xs ys) (hb : Below w.heap.size w w') : RunOwn w' B g1 g2 xs ys :=
  ⟨h.1, h.2.1, h.2.2.1, h.2.2.2.1.below hb, h.2.2.2.2.1.below hb, h.2.2.2.2.2.1.below hb h.2.2.2.1.1, h.2.2.2.2.2.2.below hb h.2.2.2.2.1.1⟩

theorem RunOwn.keep {w w' : World} {B N g1 g2 : Nat} {xs ys : List P2} (h : RunOwn w B g1 g2 xs ys) (hk : KeepFrom N w w') (h1 : N ≤ g1) (h2 : N ≤ g2) : RunOwn w' B g1 g2 xs ys :=
  ⟨h.1, h.2.1, h.2.2.1, h.2.2.2.1.block (Nat.le_of_eq hk.1.symm) (hk.2 _ h1), h.2.2.2.2.1.block (Nat.le_of_eq hk.1.symm) (hk.2 _ h2), h.2.2.2.2.2.1.block (hk.2 _ h1), h.2.2.2.2.2.2.block (hk.2 _ h2)⟩

set_option maxRecDepth 100000 in
set_option maxHeartbeats 1000000 in
theorem toRun (a1 a2 : Option Addr) (c1 c2 : Nat) (xs ys : List P2) (v k : Int) (w : World) (h1 : Sl w a1 xs) (h2 : Sl w a2 ys) (hn1 : xs.length ≤ 2 ^ 40) (hn2 : ys.length ≤ 2 ^ 40) :
    Calls Tryz.prog 61 #[.agg #[.slice a1 xs.length c1, .slice a2 ys.length c2, .int .i64 v, .int .i64 k]] w fun e w' => ∃ g1 g2, e = .returned (.agg #[.slice (some ⟨g1, 0, none⟩) xs.length xs.length, .slice (some ⟨g2, 0, none⟩) ys.length ys.length, .int .i64 v, .int .i64 k]) ∧ RunOwn w' w.heap.size g1 g2 xs ys ∧ Below w.heap.size w w' := by
  have H1 : Hid (Sl w a1 xs) := h1
  have H2 : Hid (Sl w a2 ys) := h2
  clear h1 h2
  obtain ⟨W, hW⟩ : ∃ W, W = ((w.alloc (.cells #[.slice a1 xs.length c1, .slice a2 ys.length c2, .int .i64 v, .int .i64 k] 65)).alloc (.cells #[.slice none 0 0, .slice none 0 0, .int .i64 0, .int .i64 0] 37)).alloc (.cells #[.slice none 0 0, .slice none 0 0, .int .i64 0, .int .i64 0] 37) := ⟨_, rfl⟩
  have hbW : Hid (Below w.heap.size w W) := by
    show Below _ _ _
    rw [hW]; exact (((Below.refl _ _).alloc (Nat.le_refl _) _).alloc (by simp) _).alloc (by simp; omega) _
  have hsW : Hid (W.heap.size = w.heap.size + 3) := by show _ = _; rw [hW]; simp
  have g0 : Hid (W.heap[w.heap.size]? = some (.cells #[.slice a1 xs.length c1, .slice a2 ys.length c2, .int .i64 v, .int .i64 k] 65 (0, 0))) := by
    show _ = _
    rw [hW, heap_old _ _ _ (by simp; omega), heap_old _ _ _ (by simp)]; exact heap_new _ _
  have g1 : Hid (W.heap[w.heap.size + 1]? = some (.cells #[.slice none 0 0, .slice none 0 0, .int .i64 0, .int .i64 0] 37 (0, 0))) := by
    show _ = _
    rw [hW, heap_old _ _ _ (by simp)]; exact heap_new2 _ _ _
  have g2 : Hid (W.heap[w.heap.size + 1 + 1]? = some (.cells #[.slice none 0 0, .slice none 0 0, .int .i64 0, .int .i64 0] 37 (0, 0))) := by
    show _ = _
    rw [hW]
    have := heap_new ((w.alloc (.cells #[.slice a1 xs.length c1, .slice a2 ys.length c2, .int .i64 v, .int .i64 k] 65)).alloc (.cells #[.slice none 0 0, .slice none 0 0, .int .i64 0, .int .i64 0] 37)) (.cells #[.slice none 0 0, .slice none 0 0, .int .i64 0, .int .i64 0] 37)
    rw [size_new, size_new] at this
    exact this
  have HW : Hid (W = _) := hW
  clear hW
  go_enter Tryz.func61, Tryz.ntmps61
  go_wp2_with fail
  rw [← HW.out]
  refine (toReadS a1 c1 xs W (H1.out.below hbW.out) hn1).mono ?_
  rintro e w1 ⟨rfl, at1, row1, b1⟩
  have z0 := b1.block w.heap.size (by have := hsW.out; omega)
  have z1 := b1.block (w.heap.size + 1) (by have := hsW.out; omega)
  have z2 := b1.block (w.heap.size + 1 + 1) (by have := hsW.out; omega)
  rw [g0.out] at z0
  rw [g1.out] at z1
  rw [g2.out] at z2
  have G0 : Hid (w1.heap[w.heap.size]? = _) := z0
  have G1 : Hid (w1.heap[w.heap.size + 1]? = _) := z1
  have G2 : Hid (w1.heap[w.heap.size + 1 + 1]? = _) := z2
  have A1 : Hid (BoxAt w1 W.heap.size 0 xs) := at1
  have R1 : Hid (RowR w1 W.heap.size xs.length) := row1
  have B1 : Hid (Below w.heap.size w w1) := hbW.out.trans (b1.mono (by have := hsW.out; omega))
  have S1 : Hid (W.heap.size < w1.heap.size) := at1.1
  clear at1 row1 b1 z0 z1 z2
  have q0 : w1.cell? ⟨w.heap.size + 1 + 1, 0, none⟩ = some (.slice none 0 0) := by rw [cell_heap G2.out]; rfl
  have f0 : w1.frozen? ⟨w.heap.size + 1 + 1, 0, none⟩ = false := frozen_heap G2.out _
  have q1 : w1.cell? ⟨w.heap.size, 1, none⟩ = some (.slice a2 ys.length c2) := by rw [cell_heap G0.out]; rfl
  go_wp2_with fail
  obtain ⟨W2, hW2⟩ : ∃ W2, W2 = w1.setCell ⟨w.heap.size + 1 + 1, 0, none⟩ (.slice (some ⟨W.heap.size, 0, none⟩) xs.length xs.length) := ⟨_, rfl⟩
  have K2 : Hid (KeepFrom (w.heap.size + 3) w1 W2) := by show KeepFrom _ _ _; rw [hW2]; exact (KeepFrom.refl _ _).setCell (by show w.heap.size + 1 + 1 < _; omega) _
  have B2 : Hid (Below w.heap.size w W2) := by show Below _ _ _; rw [hW2]; exact B1.out.setCell (by show w.heap.size ≤ w.heap.size + 1 + 1; omega) _
  have r0 : Hid (W2.cell? ⟨w.heap.size + 1 + 1, 0, none⟩ = some (.slice (some ⟨W.heap.size, 0, none⟩) xs.length xs.length)) := by show _ = _; rw [hW2]; exact setCell_cell_same _ _ _ _ _ q0
  have r1 : Hid (∀ o, o ≠ 0 → W2.cell? ⟨w.heap.size + 1 + 1, o, none⟩ = w1.cell? ⟨w.heap.size + 1 + 1, o, none⟩) := fun o ho => by rw [hW2]; exact setCell_cell_other _ _ _ _ _ (fun e => ho e.symm)
  have r2 : Hid (∀ b o, b ≠ w.heap.size + 1 + 1 → W2.cell? ⟨b, o, none⟩ = w1.cell? ⟨b, o, none⟩) := fun b o hb => by rw [hW2]; exact World.cell?_setCell_other _ _ _ _ (by intro e; injection e with e1; exact hb e1.symm)
  have r3 : Hid (∀ b o, W2.frozen? ⟨b, o, none⟩ = w1.frozen? ⟨b, o, none⟩) := fun b o => by rw [hW2]; simp
  have HW2 : Hid (W2 = _) := hW2
  rw [← HW2.out]
  clear hW2 q0 f0 q1
  refine (toPutS a2 c2 ys W2 (H2.out.below B2.out) hn2).mono ?_
  rintro e w2 ⟨rfl, at2, row2, b2⟩
  have S2 : Hid (W2.heap.size = w1.heap.size) := K2.out.1
  have cc : ∀ b o, b < W.heap.size → w2.cell? ⟨b, o, none⟩ = W2.cell? ⟨b, o, none⟩ := fun b o hb => b2.cell (p := ⟨b, o, none⟩) (by have := S2.out; have := S1.out; show b < _; omega)
  have ff : ∀ b o, b < W.heap.size → w2.frozen? ⟨b, o, none⟩ = W2.frozen? ⟨b, o, none⟩ := fun b o hb => b2.frozen (p := ⟨b, o, none⟩) (by have := S2.out; have := S1.out; show b < _; omega)
  have hs := hsW.out
  have p2 : w2.cell? ⟨w.heap.size, 2, none⟩ = some (.int .i64 v) := by rw [cc _ _ (by omega), r2.out _ _ (by omega), cell_heap G0.out]; rfl
  have p3 : w2.cell? ⟨w.heap.size, 3, none⟩ = some (.int .i64 k) := by rw [cc _ _ (by omega), r2.out _ _ (by omega), cell_heap G0.out]; rfl
  have o0 : w2.cell? ⟨w.heap.size + 1 + 1, 0, none⟩ = some (.slice (some ⟨W.heap.size, 0, none⟩) xs.length xs.length) := by rw [cc _ _ (by omega)]; exact r0.out
  have o1 : w2.cell? ⟨w.heap.size + 1 + 1, 1, none⟩ = some (.slice none 0 0) := by rw [cc _ _ (by omega), r1.out _ (by omega), cell_heap G2.out]; rfl
  have o2 : w2.cell? ⟨w.heap.size + 1 + 1, 2, none⟩ = some (.int .i64 0) := by rw [cc _ _ (by omega), r1.out _ (by omega), cell_heap G2.out]; rfl
  have o3 : w2.cell? ⟨w.heap.size + 1 + 1, 3, none⟩ = some (.int .i64 0) := by rw [cc _ _ (by omega), r1.out _ (by omega), cell_heap G2.out]; rfl
  have i0 : w2.cell? ⟨w.heap.size + 1, 0, none⟩ = some (.slice none 0 0) := by rw [cc _ _ (by omega), r2.out _ _ (by omega), cell_heap G1.out]; rfl
  have i1 : w2.cell? ⟨w.heap.size + 1, 1, none⟩ = some (.slice none 0 0) := by rw [cc _ _ (by omega), r2.out _ _ (by omega), cell_heap G1.out]; rfl
  have i2 : w2.cell? ⟨w.heap.size + 1, 2, none⟩ = some (.int .i64 0) := by rw [cc _ _ (by omega), r2.out _ _ (by omega), cell_heap G1.out]; rfl
  have i3 : w2.cell? ⟨w.heap.size + 1, 3, none⟩ = some (.int .i64 0) := by rw [cc _ _ (by omega), r2.out _ _ (by omega), cell_heap G1.out]; rfl
  have fo : ∀ o, w2.frozen? ⟨w.heap.size + 1 + 1, o, none⟩ = false := fun o => by rw [ff _ _ (by omega), r3.out]; exact frozen_heap G2.out _
  have fi : ∀ o, w2.frozen? ⟨w.heap.size + 1, o, none⟩ = false := fun o => by rw [ff _ _ (by omega), r3.out]; exact frozen_heap G1.out _
  have AT : Hid (RunOwn w2 w.heap.size W.heap.size W2.heap.size xs ys) := by
    have e1 := (b2.block W.heap.size (by have := S2.out; have := S1.out; omega)).trans (K2.out.2 W.heap.size (by omega))
    exact ⟨by omega, by have := S2.out; have := S1.out; omega, by have := S2.out; have := S1.out; omega, A1.out.block (by have := S2.out; have := b2.size; omega) e1, at2, R1.out.block e1, row2⟩
  have B3 : Hid (Below w.heap.size w w2) := B2.out.trans (b2.mono B2.out.size)
  have SN : Hid (w.heap.size + 3 ≤ W.heap.size ∧ w.heap.size + 3 ≤ W2.heap.size) := ⟨by omega, by have := S2.out; have := S1.out; omega⟩
  clear at2 row2 b2 cc ff hs
  go_wp2
  refine bodyPost_ret (v := .agg #[.slice (some ⟨W.heap.size, 0, none⟩) xs.length xs.length, .slice (some ⟨W2.heap.size, 0, none⟩) ys.length ys.length, .int .i64 v, .int .i64 k]) (by simp [results, Tryz.results61, go_sem, i0, i1, i2, i3]) rfl ⟨W.heap.size, W2.heap.size, rfl, ?_, ?_⟩
  · have KK : KeepFrom (w.heap.size + 3) w2 _ := (((((((KeepFrom.refl (w.heap.size + 3) w2).setCell (p := ⟨w.heap.size + 1 + 1, 1, none⟩) (by show w.heap.size + 1 + 1 < _; omega) (.slice (some ⟨W2.heap.size, 0, none⟩) ys.length ys.length)).setCell (p := ⟨w.heap.size + 1 + 1, 2, none⟩) (by show w.heap.size + 1 + 1 < _; omega) (.int .i64 v)).setCell (p := ⟨w.heap.size + 1 + 1, 3, none⟩) (by show w.heap.size + 1 + 1 < _; omega) (.int .i64 k)).setCell (p := ⟨w.heap.size + 1, 0, none⟩) (by show w.heap.size + 1 < _; omega) (.slice (some ⟨W.heap.size, 0, none⟩) xs.length xs.length)).setCell (p := ⟨w.heap.size + 1, 1, none⟩) (by show w.heap.size + 1 < _; omega) (.slice (some ⟨W2.heap.size, 0, none⟩) ys.length ys.length)).setCell (p := ⟨w.heap.size + 1, 2, none⟩) (by show w.heap.size + 1 < _; omega) (.int .i64 v)).setCell (p := ⟨w.heap.size + 1, 3, none⟩) (by show w.heap.size + 1 < _; omega) (.int .i64 k)
    exact AT.out.keep KK SN.out.1 SN.out.2
  · exact ((((((B3.out.setCell (by show w.heap.size ≤ w.heap.size + 1 + 1; omega) _).setCell (by show w.heap.size ≤ w.heap.size + 1 + 1; omega) _).setCell (by show w.heap.size ≤ w.heap.size + 1 + 1; omega) _).setCell (by show w.heap.size ≤ w.heap.size + 1; omega) _).setCell (by show w.heap.size ≤ w.heap.size + 1; omega) _).setCell (by show w.heap.size ≤ w.heap.size + 1; omega) _).setCell (by show w.heap.size ≤ w.heap.size + 1; omega) _

end Go.Proofs.YtbecdihfopjlhaaGreatDoor.Own

namespace Go.Proofs.YtbecdihfopjlhaaGreatDoor.Own
open Go.RowKit
set_option linter.unusedVariables false
set_option linter.unusedSimpArgs false

set_option maxHeartbeats 400000 in
theorem toReq (a b : Int) (w : World) : Calls Tryz.prog 60 #[.agg #[.int .i64 a, .int .i64 b]] w fun e w' => e = .returned (.agg #[.int .i64 a, .int .i64 b]) ∧ Below w.heap.size w w' := by
  go_enter Tryz.func60, Tryz.ntmps60
  go_wp2
  refine bodyPost_ret (v := .agg #[.int .i64 a, .int .i64 b]) (by simp [results, Tryz.results60, go_sem]) rfl ⟨rfl, ?_⟩
  exact ((((Below.refl _ _).alloc (Nat.le_refl _) _).alloc (by simp) _).alloc (by simp; omega) _)

theorem eqReq (a b : Int) (w : World) : Calls Tryz.prog 64 #[.agg #[.int .i64 a, .int .i64 b], .agg #[.int .i64 a, .int .i64 b]] w fun e w' => e = .returned (.bool true) ∧ Below w.heap.size w w' := by
  have ea : (a != a) = false := by simp
  have eb : (b != b) = false := by simp
  go_enter Tryz.func64, Tryz.ntmps64
  go_wp2
  go_ret
  exact ⟨rfl, ((Below.refl _ _).alloc (Nat.le_refl _) _).alloc (by simp) _⟩

theorem szEntry (n : Bool) (p q : Int) (a1 a2 : Option Addr) (n1 c1 n2 c2 : Nat) (v k left : Int) (w : World) (h1 : n1 ≤ maxLen) (h2 : n2 ≤ maxLen) (h0 : 0 ≤ left) (hm : left ≤ 2 ^ 60) :
    Calls Tryz.prog 18 #[.agg #[.bool n, .int .i64 p, .int .i64 q, .slice a1 n1 c1, .slice a2 n2 c2, .int .i64 v, .int .i64 k], .int .i64 left] w fun e w' => e = .returned (.int .i64 (if left - n1 - n2 < 0 then -1 else left - n1 - n2)) ∧ Below w.heap.size w w' := by
  obtain ⟨W, hW⟩ : ∃ W, W = w.alloc (.cells #[.bool n, .int .i64 p, .int .i64 q, .slice a1 n1 c1, .slice a2 n2 c2, .int .i64 v, .int .i64 k] 67) := ⟨_, rfl⟩
  have BW : Hid (Below w.heap.size w W) := by show Below _ _ _; rw [hW]; exact (Below.refl _ _).alloc (Nat.le_refl _) _
  have HW : Hid (W = _) := hW
  clear hW
  by_cases hl : left - n1 - n2 < 0
  · go_enter Tryz.func18, Tryz.ntmps18
    go_wp2_with fail
    rw [← HW.out]
    refine (szRun a1 a2 n1 c1 n2 c2 v k left W h1 h2 h0 hm).mono ?_
    rintro e w1 ⟨rfl, b1⟩
    rw [if_pos (by omega)]
    have B1 : Hid (Below w.heap.size w w1) := BW.out.trans (b1.mono BW.out.size)
    clear b1
    go_wp2_with fail
    go_ret
    exact ⟨rfl, B1.out⟩
  · go_enter Tryz.func18, Tryz.ntmps18
    go_wp2_with fail
    rw [← HW.out]
    refine (szRun a1 a2 n1 c1 n2 c2 v k left W h1 h2 h0 hm).mono ?_
    rintro e w1 ⟨rfl, b1⟩
    rw [if_neg (by omega)]
    have B1 : Hid (Below w.heap.size w w1) := BW.out.trans (b1.mono BW.out.size)
    clear b1
    go_wp2_with fail
    go_ret
    exact ⟨rfl, B1.out⟩

set_option maxRecDepth 100000 in
set_option maxHeartbeats 1000000 in
theorem eqEntry (n : Bool) (p q : Int) (a1 a2 b1 b2 : Option Addr) (c1 c2 d1 d2 : Nat) (xs ys : List P2) (v k : Int) (w : World) (h1 : Sl w a1 xs) (h2 : Sl w a2 ys) (h3 : Sl w b1 xs) (h4 : Sl w b2 ys)
    (n1 : xs.length ≤ 2 ^ 40) (n2 : ys.length ≤ 2 ^ 40) :
    Calls Tryz.prog 23 #[.agg #[.bool n, .int .i64 p, .int .i64 q, .slice a1 xs.length c1, .slice a2 ys.length c2, .int .i64 v, .int .i64 k], .agg #[.bool n, .int .i64 p, .int .i64 q, .slice b1 xs.length d1, .slice b2 ys.length d2, .int .i64 v, .int .i64 k]] w fun e w' => e = .returned (.bool true) ∧ Below w.heap.size w w' := by
  have H1 : Hid (Sl w a1 xs) := h1
  have H2 : Hid (Sl w a2 ys) := h2
  have H3 : Hid (Sl w b1 xs) := h3
  have H4 : Hid (Sl w b2 ys) := h4
  clear h1 h2 h3 h4
  obtain ⟨W, hW⟩ : ∃ W, W = (w.alloc (.cells #[.bool n, .int .i64 p, .int .i64 q, .slice a1 xs.length c1, .slice a2 ys.length c2, .int .i64 v, .int .i64 k] 48)).alloc (.cells #[.bool n, .int .i64 p, .int .i64 q, .slice b1 xs.length d1, .slice b2 ys.length d2, .int .i64 v, .int .i64 k] 48) := ⟨_, rfl⟩
  have BW : Hid (Below w.heap.size w W) := by
    show Below _ _ _
    rw [hW]; exact ((Below.refl _ _).alloc (Nat.le_refl _) _).alloc (by simp) _
  have G0 : Hid (Blk W w.heap.size #[.bool n, .int .i64 p, .int .i64 q, .slice a1 xs.length c1, .slice a2 ys.length c2, .int .i64 v, .int .i64 k] 48) := by show Blk _ _ _ _; rw [hW]; exact (Blk.new _ _ _).alloc _
  have G1 : Hid (Blk W (w.heap.size + 1) #[.bool n, .int .i64 p, .int .i64 q, .slice b1 xs.length d1, .slice b2 ys.length d2, .int .i64 v, .int .i64 k] 48) := by show Blk _ _ _ _; rw [hW]; exact Blk.new2 _ _ _ _
  have HW : Hid (W = _) := hW
  clear hW
  have en : (n != n) = false := by simp
  go_enter Tryz.func23, Tryz.ntmps23
  go_wp2_with fail
  rw [← HW.out]
  refine (eqReq p q W).mono ?_
  rintro e w1 ⟨rfl, b1'⟩
  have B1 : Hid (Below w.heap.size w w1) := BW.out.trans (b1'.mono BW.out.size)
  obtain ⟨q0, q1, q2, q3, q4, q5, q6⟩ := (G0.out.keep b1').cells7
  obtain ⟨r0, r1, r2, r3, r4, r5, r6⟩ := (G1.out.keep b1').cells7
  clear b1'
  go_wp2_with fail
  refine (eqRun a1 a2 b1 b2 c1 c2 d1 d2 xs ys xs ys v k v k w1 (H1.out.below B1.out) (H2.out.below B1.out) (H3.out.below B1.out) (H4.out.below B1.out) n1 n2 n1 n2 ⟨rfl, rfl, rfl, rfl⟩).mono ?_
  rintro e w2 ⟨rfl, b2'⟩
  have B2 : Hid (Below w.heap.size w w2) := B1.out.trans (b2'.mono B1.out.size)
  clear b2' q0 q1 q2 q3 q4 q5 q6 r0 r1 r2 r3 r4 r5 r6
  go_wp2_with fail
  go_ret
  exact ⟨rfl, B2.out⟩

set_option maxRecDepth 100000 in
set_option maxHeartbeats 1000000 in
theorem toEntry (n : Bool) (p q : Int) (a1 a2 : Option Addr) (c1 c2 : Nat) (xs ys : List P2) (v k : Int) (w : World) (h1 : Sl w a1 xs) (h2 : Sl w a2 ys) (hn1 : xs.length ≤ 2 ^ 40) (hn2 : ys.length ≤ 2 ^ 40) :
    Calls Tryz.prog 21 #[.agg #[.bool n, .int .i64 p, .int .i64 q, .slice a1 xs.length c1, .slice a2 ys.length c2, .int .i64 v, .int .i64 k]] w fun e w' => ∃ g1 g2, e = .returned (.agg #[.bool n, .int .i64 p, .int .i64 q, .slice (some ⟨g1, 0, none⟩) xs.length xs.length, .slice (some ⟨g2, 0, none⟩) ys.length ys.length, .int .i64 v, .int .i64 k]) ∧ RunOwn w' w.heap.size g1 g2 xs ys ∧ Below w.heap.size w w' := by
  have H1 : Hid (Sl w a1 xs) := h1
  have H2 : Hid (Sl w a2 ys) := h2
  clear h1 h2
  obtain ⟨W, hW⟩ : ∃ W, W = ((w.alloc (.cells #[.bool n, .int .i64 p, .int .i64 q, .slice a1 xs.length c1, .slice a2 ys.length c2, .int .i64 v, .int .i64 k] 67)).alloc (.cells #[.bool false, .int .i64 0, .int .i64 0, .slice none 0 0, .slice none 0 0, .int .i64 0, .int .i64 0] 48)).alloc (.cells #[.bool n, .int .i64 0, .int .i64 0, .slice none 0 0, .slice none 0 0, .int .i64 0, .int .i64 0] 48) := ⟨_, rfl⟩
  have BW : Hid (Below w.heap.size w W) := by
    show Below _ _ _
    rw [hW]; exact ((((Below.refl _ _).alloc (Nat.le_refl _) _).alloc (by simp) _).alloc (by simp; omega) _)
  have SW : Hid (W.heap.size = w.heap.size + 3) := by show _ = _; rw [hW]; simp
  have G0 : Hid (Blk W w.heap.size #[.bool n, .int .i64 p, .int .i64 q, .slice a1 xs.length c1, .slice a2 ys.length c2, .int .i64 v, .int .i64 k] 67) := by
    show Blk _ _ _ _; rw [hW]; exact ((Blk.new _ _ _).alloc _).alloc _
  have G1 : Hid (Blk W (w.heap.size + 1) #[.bool false, .int .i64 0, .int .i64 0, .slice none 0 0, .slice none 0 0, .int .i64 0, .int .i64 0] 48) := by
    show Blk _ _ _ _; rw [hW]; exact (Blk.new2 _ _ _ _).alloc _
  have G2 : Hid (Blk W (w.heap.size + 1 + 1) #[.bool n, .int .i64 0, .int .i64 0, .slice none 0 0, .slice none 0 0, .int .i64 0, .int .i64 0] 48) := by
    show Blk _ _ _ _; rw [hW]; exact Blk.new3 _ _ _ _ _
  have HW : Hid (W = _) := hW
  clear hW
  go_enter Tryz.func21, Tryz.ntmps21
  go_wp2_with fail
  rw [← HW.out]
  refine (toReq p q W).mono ?_
  rintro e w1 ⟨rfl, b1⟩
  have B1 : Hid (Below w.heap.size w w1) := BW.out.trans (b1.mono BW.out.size)
  have S1 : Hid (W.heap.size ≤ w1.heap.size) := b1.size
  have D0 : Hid (Blk w1 w.heap.size _ _) := G0.out.keep b1
  have D1 : Hid (Blk w1 (w.heap.size + 1) _ _) := G1.out.keep b1
  have D2 : Hid (Blk w1 (w.heap.size + 1 + 1) _ _) := G2.out.keep b1
  clear b1
  obtain ⟨q0, q1, q2, q3, q4, q5, q6⟩ := D0.out.cells7
  obtain ⟨r0, r1, r2, r3, r4, r5, r6⟩ := D2.out.cells7
  have f1 := D2.out.frozen 1
  have f2 := D2.out.frozen 2
  go_wp2_with fail
  obtain ⟨W2, hW2⟩ : ∃ W2, W2 = (w1.setCell ⟨w.heap.size + 1 + 1, 1, none⟩ (.int .i64 p)).setCell ⟨w.heap.size + 1 + 1, 2, none⟩ (.int .i64 q) := ⟨_, rfl⟩
  have E1 : Hid (Blk W2 (w.heap.size + 1) #[.bool false, .int .i64 0, .int .i64 0, .slice none 0 0, .slice none 0 0, .int .i64 0, .int .i64 0] 48) := by show Blk _ _ _ _; rw [hW2]; exact (D1.out.other (by omega) _ _).other (by omega) _ _
  have E2 : Hid (Blk W2 (w.heap.size + 1 + 1) #[.bool n, .int .i64 p, .int .i64 q, .slice none 0 0, .slice none 0 0, .int .i64 0, .int .i64 0] 48) := by show Blk _ _ _ _; rw [hW2]; exact (D2.out.set _ _).set _ _
  have B2 : Hid (Below w.heap.size w W2) := by show Below _ _ _; rw [hW2]; exact (B1.out.setCell (by show w.heap.size ≤ w.heap.size + 1 + 1; omega) _).setCell (by show w.heap.size ≤ w.heap.size + 1 + 1; omega) _
  have S2 : Hid (w.heap.size + 3 ≤ W2.heap.size) := by show _ ≤ _; rw [hW2]; simp [World.setCell]; have := S1.out; have := SW.out; omega
  have HW2 : Hid (W2 = _) := hW2
  rw [← HW2.out]
  clear hW2 q0 q1 q2 q3 q4 q5 q6 r0 r1 r2 r3 r4 r5 r6 f1 f2
  refine (toRun a1 a2 c1 c2 xs ys v k W2 (H1.out.below B2.out) (H2.out.below B2.out) hn1 hn2).mono ?_
  rintro e w3 ⟨g1, g2, rfl, own, b3⟩
  have F1 : Hid (Blk w3 (w.heap.size + 1) _ _) := E1.out.keep b3
  have F2 : Hid (Blk w3 (w.heap.size + 1 + 1) _ _) := E2.out.keep b3
  have B3 : Hid (Below w.heap.size w w3) := B2.out.trans (b3.mono B2.out.size)
  have O3 : Hid (RunOwn w3 w.heap.size g1 g2 xs ys) := ⟨Nat.le_trans B2.out.size own.1, Nat.le_trans B2.out.size own.2.1, own.2.2⟩
  have N3 : Hid (w.heap.size + 3 ≤ g1 ∧ w.heap.size + 3 ≤ g2) := ⟨Nat.le_trans S2.out own.1, Nat.le_trans S2.out own.2.1⟩
  clear b3 own
  obtain ⟨i0, i1, i2, i3, i4, i5, i6⟩ := F1.out.cells7
  obtain ⟨o0, o1, o2, o3, o4, o5, o6⟩ := F2.out.cells7
  have fo := F2.out.frozen
  have fi := F1.out.frozen
  go_wp2
  refine bodyPost_ret (v := .agg #[.bool n, .int .i64 p, .int .i64 q, .slice (some ⟨g1, 0, none⟩) xs.length xs.length, .slice (some ⟨g2, 0, none⟩) ys.length ys.length, .int .i64 v, .int .i64 k]) (by simp [results, Tryz.results21, go_sem, i0, i1, i2, i3, i4, i5, i6]) rfl ⟨g1, g2, rfl, ?_, ?_⟩
  · have KK : KeepFrom (w.heap.size + 3) w3 _ := (((((((((((KeepFrom.refl (w.heap.size + 3) w3).setCell (p := ⟨w.heap.size + 1 + 1, 3, none⟩) (by show w.heap.size + 1 + 1 < _; omega) (.slice (some ⟨g1, 0, none⟩) xs.length xs.length)).setCell (p := ⟨w.heap.size + 1 + 1, 4, none⟩) (by show w.heap.size + 1 + 1 < _; omega) (.slice (some ⟨g2, 0, none⟩) ys.length ys.length)).setCell (p := ⟨w.heap.size + 1 + 1, 5, none⟩) (by show w.heap.size + 1 + 1 < _; omega) (.int .i64 v)).setCell (p := ⟨w.heap.size + 1 + 1, 6, none⟩) (by show w.heap.size + 1 + 1 < _; omega) (.int .i64 k)).setCell (p := ⟨w.heap.size + 1, 0, none⟩) (by show w.heap.size + 1 < _; omega) (.bool n)).setCell (p := ⟨w.heap.size + 1, 1, none⟩) (by show w.heap.size + 1 < _; omega) (.int .i64 p)).setCell (p := ⟨w.heap.size + 1, 2, none⟩) (by show w.heap.size + 1 < _; omega) (.int .i64 q)).setCell (p := ⟨w.heap.size + 1, 3, none⟩) (by show w.heap.size + 1 < _; omega) (.slice (some ⟨g1, 0, none⟩) xs.length xs.length)).setCell (p := ⟨w.heap.size + 1, 4, none⟩) (by show w.heap.size + 1 < _; omega) (.slice (some ⟨g2, 0, none⟩) ys.length ys.length)).setCell (p := ⟨w.heap.size + 1, 5, none⟩) (by show w.heap.size + 1 < _; omega) (.int .i64 v)).setCell (p := ⟨w.heap.size + 1, 6, none⟩) (by show w.heap.size + 1 < _; omega) (.int .i64 k)
    exact O3.out.keep KK N3.out.1 N3.out.2
  · have s2 : w.heap.size ≤ w.heap.size + 1 + 1 := by omega
    have s1 : w.heap.size ≤ w.heap.size + 1 := by omega
    exact ((((((((((B3.out.setCell s2 _).setCell s2 _).setCell s2 _).setCell s2 _).setCell s1 _).setCell s1 _).setCell s1 _).setCell s1 _).setCell s1 _).setCell s1 _).setCell s1 _
end Go.Proofs.YtbecdihfopjlhaaGreatDoor.Own
