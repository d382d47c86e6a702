/-
  Own texts, bundled: ExecMath, RunEq, RunOps, Blk, OwnB, Cells4, Turned, VoteMem.
-/
import Derived.Test.YtbbbfnfpmaogoaaPk1
namespace Go.Proofs.Ytbbbfnfpmaogoaa.Own
open Go.RowKit
set_option linter.unusedVariables false

abbrev P2 := Int × Int
def z2 : P2 := (0, 0)

/-- What stands at a place is of a box, right, and its box has not come ahead of it. -/
def okAt (f : Int → Bool) (xs : List P2) (i : Nat) : Bool := regOk (xs.getD i (0, 0)).1 && f (xs.getD i (0, 0)).2 && !((xs.take i).any fun p => p.1 == (xs.getD i (0, 0)).1)
def okAll (f : Int → Bool) (xs : List P2) : Bool := (List.range xs.length).all (okAt f xs)
theorem okAll_iff {f : Int → Bool} {xs : List P2} : okAll f xs = true ↔ ∀ i, i < xs.length → okAt f xs i = true := by
  simp [okAll, List.all_eq_true]
theorem okAll_false {f : Int → Bool} {xs : List P2} {i : Nat} (hi : i < xs.length) (h : okAt f xs i = false) : okAll f xs = false := by
  rw [Bool.eq_false_iff]
  intro e
  rw [okAll_iff.1 e i hi] at h
  cases h

def verOk (n : Int) : Bool := decide (0 ≤ n) && decide (n ≤ 1000000)
def endOk (k v : Int) (nr np : Nat) : Bool :=
  if k = 0 then numOk v else if k = 1 ∨ k = 2 then v == 0 && decide (np = 0) else if k = 3 then v == 0 && decide (np = 0) && decide (nr = 0) else false
/-- A run is right. -/
def execOk (xs ys : List P2) (v k : Int) : Bool := endOk k v xs.length ys.length && okAll verOk xs && okAll numOk ys

theorem endOk_0 (v : Int) (nr np : Nat) : endOk 0 v nr np = numOk v := rfl
theorem endOk_1 (v : Int) (nr np : Nat) : endOk 1 v nr np = (v == 0 && decide (np = 0)) := rfl
theorem endOk_2 (v : Int) (nr np : Nat) : endOk 2 v nr np = (v == 0 && decide (np = 0)) := rfl
theorem endOk_3 (v : Int) (nr np : Nat) : endOk 3 v nr np = (v == 0 && decide (np = 0) && decide (nr = 0)) := rfl
theorem endOk_no {k : Int} (v : Int) (nr np : Nat) (h : k ≠ 0 ∧ k ≠ 1 ∧ k ≠ 2 ∧ k ≠ 3) : endOk k v nr np = false := by
  obtain ⟨h0, h1, h2, h3⟩ := h
  simp [endOk, h0, h1, h2, h3]

/-- The boxes that have come, as marks. -/
def seen (xs : List P2) (k : Nat) (j : Nat) : Bool := (xs.take k).any fun p => p.1 == (j : Int)
theorem seen_zero (xs : List P2) (j : Nat) : seen xs 0 j = false := by simp [seen]
theorem seen_succ (xs : List P2) (k j : Nat) (h : k < xs.length) : seen xs (k + 1) j = (seen xs k j || (xs.getD k (0, 0)).1 == (j : Int)) := by
  unfold seen
  rw [List.take_succ_eq_append_getElem h, List.any_append]
  simp [List.getD, h]
theorem okAt_seen (f : Int → Bool) (xs : List P2) (k : Nat) (j : Nat) (hj : (xs.getD k (0, 0)).1 = (j : Int)) : okAt f xs k = (regOk (j : Int) && f (xs.getD k (0, 0)).2 && !seen xs k j) := by
  simp only [okAt, seen, hj]
end Go.Proofs.Ytbbbfnfpmaogoaa.Own

namespace Go.Proofs.Ytbbbfnfpmaogoaa.Own
open Go.RowKit
set_option linter.unusedVariables false
set_option linter.unusedSimpArgs false

set_option maxRecDepth 100000 in
set_option maxHeartbeats 1000000 in
theorem eqRun (a1 a2 b1 b2 : Option Addr) (c1 c2 d1 d2 : Nat) (xs ys zs us : List P2) (v k v' k' : Int) (w : World) (h1 : Sl w a1 xs) (h2 : Sl w a2 ys) (h3 : Sl w b1 zs) (h4 : Sl w b2 us)
    (n1 : xs.length ≤ 2 ^ 40) (n2 : ys.length ≤ 2 ^ 40) (n3 : zs.length ≤ 2 ^ 40) (n4 : us.length ≤ 2 ^ 40) (he : xs = zs ∧ ys = us ∧ v = v' ∧ k = k') :
    Calls Try.prog 84 #[.agg #[.slice a1 xs.length c1, .slice a2 ys.length c2, .int .i64 v, .int .i64 k], .agg #[.slice b1 zs.length d1, .slice b2 us.length d2, .int .i64 v', .int .i64 k']] w fun e w' => e = .returned (.bool true) ∧ Below w.heap.size w w' := by
  obtain ⟨rfl, rfl, rfl, rfl⟩ := he
  have H1 : Hid (Sl w a1 xs) := h1
  have H2 : Hid (Sl w a2 ys) := h2
  have H3 : Hid (Sl w b1 xs) := h3
  have H4 : Hid (Sl w b2 ys) := h4
  clear h1 h2 h3 h4
  obtain ⟨W, hW⟩ : ∃ W, W = (w.alloc (.cells #[.slice a1 xs.length c1, .slice a2 ys.length c2, .int .i64 v, .int .i64 k] 32)).alloc (.cells #[.slice b1 xs.length d1, .slice b2 ys.length d2, .int .i64 v, .int .i64 k] 32) := ⟨_, rfl⟩
  have hbW : Hid (Below w.heap.size w W) := by
    show Below _ _ _
    rw [hW]; exact ((Below.refl _ _).alloc (Nat.le_refl _) _).alloc (by simp) _
  have hsW : Hid (W.heap.size = w.heap.size + 2) := by show _ = _; rw [hW]; simp
  have g0 : Hid (W.heap[w.heap.size]? = some (.cells #[.slice a1 xs.length c1, .slice a2 ys.length c2, .int .i64 v, .int .i64 k] 32 (0, 0))) := by
    show _ = _
    rw [hW]; exact heap_new1 _ _ _
  have g1 : Hid (W.heap[w.heap.size + 1]? = some (.cells #[.slice b1 xs.length d1, .slice b2 ys.length d2, .int .i64 v, .int .i64 k] 32 (0, 0))) := by
    show _ = _
    rw [hW]; exact heap_new2 _ _ _
  have HW : Hid (W = _) := hW
  clear hW
  go_enter Try.func84, Try.ntmps84
  go_wp2_with fail
  rw [← HW.out]
  refine (eqReadS a1 b1 c1 d1 xs xs W (H1.out.below hbW.out) (H3.out.below hbW.out) n1 n1).mono ?_
  rintro e w1 ⟨rfl, b1'⟩
  rw [show (xs == xs) = true from by simp]
  have B1 : Hid (Below w.heap.size w w1) := hbW.out.trans (b1'.mono hbW.out.size)
  have C0 : Hid (∀ o, w1.cell? ⟨w.heap.size, o, none⟩ = W.cell? ⟨w.heap.size, o, none⟩) := fun o => b1'.cell (p := ⟨w.heap.size, o, none⟩) (by show w.heap.size < _; have := hsW.out; omega)
  have C1 : Hid (∀ o, w1.cell? ⟨w.heap.size + 1, o, none⟩ = W.cell? ⟨w.heap.size + 1, o, none⟩) := fun o => b1'.cell (p := ⟨w.heap.size + 1, o, none⟩) (by show w.heap.size + 1 < _; have := hsW.out; omega)
  have S1 : Hid (W.heap.size ≤ w1.heap.size) := b1'.size
  have q0 : w1.cell? ⟨w.heap.size, 1, none⟩ = some (.slice a2 ys.length c2) := by rw [C0.out, cell_heap g0.out]; rfl
  have q1 : w1.cell? ⟨w.heap.size + 1, 1, none⟩ = some (.slice b2 ys.length d2) := by rw [C1.out, cell_heap g1.out]; rfl
  clear b1'
  go_wp2_with fail
  refine (eqPutS a2 b2 c2 d2 ys ys w1 (H2.out.below B1.out) (H4.out.below B1.out) n2 n2).mono ?_
  rintro e w2 ⟨rfl, b2'⟩
  rw [show (ys == ys) = true from by simp]
  have B2 : Hid (Below w.heap.size w w2) := B1.out.trans (b2'.mono B1.out.size)
  have D0 : Hid (∀ o, w2.cell? ⟨w.heap.size, o, none⟩ = W.cell? ⟨w.heap.size, o, none⟩) := fun o => (b2'.cell (p := ⟨w.heap.size, o, none⟩) (by show w.heap.size < _; have := hsW.out; have := S1.out; omega)).trans (C0.out o)
  have D1 : Hid (∀ o, w2.cell? ⟨w.heap.size + 1, o, none⟩ = W.cell? ⟨w.heap.size + 1, o, none⟩) := fun o => (b2'.cell (p := ⟨w.heap.size + 1, o, none⟩) (by show w.heap.size + 1 < _; have := hsW.out; have := S1.out; omega)).trans (C1.out o)
  have p0 : w2.cell? ⟨w.heap.size, 2, none⟩ = some (.int .i64 v) := by rw [D0.out, cell_heap g0.out]; rfl
  have p1 : w2.cell? ⟨w.heap.size + 1, 2, none⟩ = some (.int .i64 v) := by rw [D1.out, cell_heap g1.out]; rfl
  have p2 : w2.cell? ⟨w.heap.size, 3, none⟩ = some (.int .i64 k) := by rw [D0.out, cell_heap g0.out]; rfl
  have p3 : w2.cell? ⟨w.heap.size + 1, 3, none⟩ = some (.int .i64 k) := by rw [D1.out, cell_heap g1.out]; rfl
  have ev : (v != v) = false := by simp
  have ek : (k != k) = false := by simp
  clear b2' q0 q1
  go_wp2
  go_ret
  exact ⟨rfl, B2.out⟩
end Go.Proofs.Ytbbbfnfpmaogoaa.Own

namespace Go.Proofs.Ytbbbfnfpmaogoaa.Own
open Go.RowKit
set_option linter.unusedVariables false
set_option linter.unusedSimpArgs false

set_option maxHeartbeats 1000000 in
theorem szRun (a1 a2 : Option Addr) (n1 c1 n2 c2 : Nat) (v k left : Int) (w : World) (h1 : n1 ≤ maxLen) (h2 : n2 ≤ maxLen) (h0 : 0 ≤ left) (hm : left ≤ 2 ^ 60) :
    Calls Try.prog 75 #[.agg #[.slice a1 n1 c1, .slice a2 n2 c2, .int .i64 v, .int .i64 k], .int .i64 left] w fun e w' => e = .returned (.int .i64 (if left - n1 - n2 < 0 then -1 else left - n1 - n2)) ∧ Below w.heap.size w w' := by
  have B0 : ∀ o, Hid (Below w.heap.size w (w.alloc o)) := fun o => (Below.refl _ _).alloc (Nat.le_refl _) _
  by_cases t : left - n1 < 0
  · rw [if_pos (by omega)]
    go_enter Try.func75, Try.ntmps75
    go_wp2_with fail
    refine (szReadS a1 n1 c1 left _ h1 h0 hm).mono ?_
    rintro e w1 ⟨rfl, rfl⟩
    rw [if_pos t]
    go_wp2_with fail
    go_ret
    exact ⟨rfl, (B0 _).out⟩
  · go_enter Try.func75, Try.ntmps75
    go_wp2_with fail
    refine (szReadS a1 n1 c1 left _ h1 h0 hm).mono ?_
    rintro e w1 ⟨rfl, rfl⟩
    rw [if_neg (by omega)]
    have t' : ¬ left - (n1 : Int) < 0 := by omega
    go_wp2_with fail
    refine (szPutS a2 n2 c2 (left - n1) _ h2 (by omega) (by omega)).mono ?_
    rintro e w1 ⟨rfl, rfl⟩
    by_cases t2 : left - n1 - n2 < 0
    · rw [if_pos t2]
      go_wp2_with fail
      go_ret
      exact ⟨rfl, (B0 _).out⟩
    · rw [if_neg t2]
      go_wp2_with fail
      go_ret
      exact ⟨rfl, (B0 _).out⟩

/-- The blocks from N on are as they were. -/
def KeepFrom (N : Nat) (w w' : World) : Prop := w'.heap.size = w.heap.size ∧ ∀ k, N ≤ k → w'.heap[k]? = w.heap[k]?
theorem KeepFrom.refl (N : Nat) (w : World) : KeepFrom N w w := ⟨rfl, fun _ _ => rfl⟩
theorem KeepFrom.setCell {N : Nat} {a w : World} (h : KeepFrom N a w) {p : Addr} (hp : p.block < N) (v : Value) : KeepFrom N a (w.setCell p v) :=
  ⟨by simpa [World.setCell] using h.1, fun k hk => by rw [Below.heap_setCell _ _ _ _ (by omega)]; exact h.2 k hk⟩
theorem BoxAt.block {w w' : World} {b off : Nat} {xs : List P2} (h : BoxAt w b off xs) (hs : w.heap.size ≤ w'.heap.size) (hb : w'.heap[b]? = w.heap[b]?) : BoxAt w' b off xs :=
  ⟨Nat.lt_of_lt_of_le h.1 hs, fun i hi => by
    rw [World.cell?_of_block (w := w) (a := ⟨b, off + i * 2, none⟩) hb, World.cell?_of_block (w := w) (a := ⟨b, off + i * 2 + 1, none⟩) hb]; exact h.2 i hi⟩
theorem RowR.block {w w' : World} {b n : Nat} (h : RowR w b n) (hb : w'.heap[b]? = w.heap[b]?) : RowR w' b n := by
  obtain ⟨C, h1, h2⟩ := h
  exact ⟨C, by rw [hb]; exact h1, h2⟩
theorem RowP.block {w w' : World} {b n : Nat} (h : RowP w b n) (hb : w'.heap[b]? = w.heap[b]?) : RowP w' b n := by
  obtain ⟨C, h1, h2⟩ := h
  exact ⟨C, by rw [hb]; exact h1, h2⟩

/-- A run in memory of its own: two rows. -/
def RunOwn (w : World) (B g1 g2 : Nat) (xs ys : List P2) : Prop := B ≤ g1 ∧ B ≤ g2 ∧ g1 ≠ g2 ∧ BoxAt w g1 0 xs ∧ BoxAt w g2 0 ys ∧ RowR w g1 xs.length ∧ RowP w g2 ys.length

theorem RunOwn.below {w w' : World} {B g1 g2 : Nat} {xs ys : List P2} (h : RunOwn w B g1 g2 xs ys) (hb : Below w.heap.size w w') : RunOwn w' B g1 g2 xs ys :=
  ⟨h.1, h.2.1, h.2.2.1, h.2.2.2.1.below hb, h.2.2.2.2.1.below hb, h.2.2.2.2.2.1.below hb h.2.2.2.1.1, h.2.2.2.2.2.2.below hb h.2.2.2.2.1.1⟩

theorem RunOwn.keep {w w' : World} {B N g1 g2 : Nat} {xs ys : List P2} (h : RunOwn w B g1 g2 xs ys) (hk : KeepFrom N w w') (h1 : N ≤ g1) (h2 : N ≤ g2) : RunOwn w' B g1 g2 xs ys :=
  ⟨h.1, h.2.1, h.2.2.1, h.2.2.2.1.block (Nat.le_of_eq hk.1.symm) (hk.2 _ h1), h.2.2.2.2.1.block (Nat.le_of_eq hk.1.symm) (hk.2 _ h2), h.2.2.2.2.2.1.block (hk.2 _ h1), h.2.2.2.2.2.2.block (hk.2 _ h2)⟩

set_option maxRecDepth 100000 in
set_option maxHeartbeats 1000000 in
theorem toRun (a1 a2 : Option Addr) (c1 c2 : Nat) (xs ys : List P2) (v k : Int) (w : World) (h1 : Sl w a1 xs) (h2 : Sl w a2 ys) (hn1 : xs.length ≤ 2 ^ 40) (hn2 : ys.length ≤ 2 ^ 40) :
    Calls Try.prog 78 #[.agg #[.slice a1 xs.length c1, .slice a2 ys.length c2, .int .i64 v, .int .i64 k]] w fun e w' => ∃ g1 g2, e = .returned (.agg #[.slice (some ⟨g1, 0, none⟩) xs.length xs.length, .slice (some ⟨g2, 0, none⟩) ys.length ys.length, .int .i64 v, .int .i64 k]) ∧ RunOwn w' w.heap.size g1 g2 xs ys ∧ Below w.heap.size w w' := by
  have H1 : Hid (Sl w a1 xs) := h1
  have H2 : Hid (Sl w a2 ys) := h2
  clear h1 h2
  obtain ⟨W, hW⟩ : ∃ W, W = ((w.alloc (.cells #[.slice a1 xs.length c1, .slice a2 ys.length c2, .int .i64 v, .int .i64 k] 58)).alloc (.cells #[.slice none 0 0, .slice none 0 0, .int .i64 0, .int .i64 0] 32)).alloc (.cells #[.slice none 0 0, .slice none 0 0, .int .i64 0, .int .i64 0] 32) := ⟨_, rfl⟩
  have hbW : Hid (Below w.heap.size w W) := by
    show Below _ _ _
    rw [hW]; exact (((Below.refl _ _).alloc (Nat.le_refl _) _).alloc (by simp) _).alloc (by simp; omega) _
  have hsW : Hid (W.heap.size = w.heap.size + 3) := by show _ = _; rw [hW]; simp
  have g0 : Hid (W.heap[w.heap.size]? = some (.cells #[.slice a1 xs.length c1, .slice a2 ys.length c2, .int .i64 v, .int .i64 k] 58 (0, 0))) := by
    show _ = _
    rw [hW, heap_old _ _ _ (by simp; omega), heap_old _ _ _ (by simp)]; exact heap_new _ _
  have g1 : Hid (W.heap[w.heap.size + 1]? = some (.cells #[.slice none 0 0, .slice none 0 0, .int .i64 0, .int .i64 0] 32 (0, 0))) := by
    show _ = _
    rw [hW, heap_old _ _ _ (by simp)]; exact heap_new2 _ _ _
  have g2 : Hid (W.heap[w.heap.size + 1 + 1]? = some (.cells #[.slice none 0 0, .slice none 0 0, .int .i64 0, .int .i64 0] 32 (0, 0))) := by
    show _ = _
    rw [hW]
    have := heap_new ((w.alloc (.cells #[.slice a1 xs.length c1, .slice a2 ys.length c2, .int .i64 v, .int .i64 k] 58)).alloc (.cells #[.slice none 0 0, .slice none 0 0, .int .i64 0, .int .i64 0] 32)) (.cells #[.slice none 0 0, .slice none 0 0, .int .i64 0, .int .i64 0] 32)
    rw [size_new, size_new] at this
    exact this
  have HW : Hid (W = _) := hW
  clear hW
  go_enter Try.func78, Try.ntmps78
  go_wp2_with fail
  rw [← HW.out]
  refine (toReadS a1 c1 xs W (H1.out.below hbW.out) hn1).mono ?_
  rintro e w1 ⟨rfl, at1, row1, b1⟩
  have z0 := b1.block w.heap.size (by have := hsW.out; omega)
  have z1 := b1.block (w.heap.size + 1) (by have := hsW.out; omega)
  have z2 := b1.block (w.heap.size + 1 + 1) (by have := hsW.out; omega)
  rw [g0.out] at z0
  rw [g1.out] at z1
  rw [g2.out] at z2
  have G0 : Hid (w1.heap[w.heap.size]? = _) := z0
  have G1 : Hid (w1.heap[w.heap.size + 1]? = _) := z1
  have G2 : Hid (w1.heap[w.heap.size + 1 + 1]? = _) := z2
  have A1 : Hid (BoxAt w1 W.heap.size 0 xs) := at1
  have R1 : Hid (RowR w1 W.heap.size xs.length) := row1
  have B1 : Hid (Below w.heap.size w w1) := hbW.out.trans (b1.mono (by have := hsW.out; omega))
  have S1 : Hid (W.heap.size < w1.heap.size) := at1.1
  clear at1 row1 b1 z0 z1 z2
  have q0 : w1.cell? ⟨w.heap.size + 1 + 1, 0, none⟩ = some (.slice none 0 0) := by rw [cell_heap G2.out]; rfl
  have f0 : w1.frozen? ⟨w.heap.size + 1 + 1, 0, none⟩ = false := frozen_heap G2.out _
  have q1 : w1.cell? ⟨w.heap.size, 1, none⟩ = some (.slice a2 ys.length c2) := by rw [cell_heap G0.out]; rfl
  go_wp2_with fail
  obtain ⟨W2, hW2⟩ : ∃ W2, W2 = w1.setCell ⟨w.heap.size + 1 + 1, 0, none⟩ (.slice (some ⟨W.heap.size, 0, none⟩) xs.length xs.length) := ⟨_, rfl⟩
  have K2 : Hid (KeepFrom (w.heap.size + 3) w1 W2) := by show KeepFrom _ _ _; rw [hW2]; exact (KeepFrom.refl _ _).setCell (by show w.heap.size + 1 + 1 < _; omega) _
  have B2 : Hid (Below w.heap.size w W2) := by show Below _ _ _; rw [hW2]; exact B1.out.setCell (by show w.heap.size ≤ w.heap.size + 1 + 1; omega) _
  have r0 : Hid (W2.cell? ⟨w.heap.size + 1 + 1, 0, none⟩ = some (.slice (some ⟨W.heap.size, 0, none⟩) xs.length xs.length)) := by show _ = _; rw [hW2]; exact setCell_cell_same _ _ _ _ _ q0
  have r1 : Hid (∀ o, o ≠ 0 → W2.cell? ⟨w.heap.size + 1 + 1, o, none⟩ = w1.cell? ⟨w.heap.size + 1 + 1, o, none⟩) := fun o ho => by rw [hW2]; exact setCell_cell_other _ _ _ _ _ (fun e => ho e.symm)
  have r2 : Hid (∀ b o, b ≠ w.heap.size + 1 + 1 → W2.cell? ⟨b, o, none⟩ = w1.cell? ⟨b, o, none⟩) := fun b o hb => by rw [hW2]; exact World.cell?_setCell_other _ _ _ _ (by intro e; injection e with e1; exact hb e1.symm)
  have r3 : Hid (∀ b o, W2.frozen? ⟨b, o, none⟩ = w1.frozen? ⟨b, o, none⟩) := fun b o => by rw [hW2]; simp
  have HW2 : Hid (W2 = _) := hW2
  rw [← HW2.out]
  clear hW2 q0 f0 q1
  refine (toPutS a2 c2 ys W2 (H2.out.below B2.out) hn2).mono ?_
  rintro e w2 ⟨rfl, at2, row2, b2⟩
  have S2 : Hid (W2.heap.size = w1.heap.size) := K2.out.1
  have cc : ∀ b o, b < W.heap.size → w2.cell? ⟨b, o, none⟩ = W2.cell? ⟨b, o, none⟩ := fun b o hb => b2.cell (p := ⟨b, o, none⟩) (by have := S2.out; have := S1.out; show b < _; omega)
  have ff : ∀ b o, b < W.heap.size → w2.frozen? ⟨b, o, none⟩ = W2.frozen? ⟨b, o, none⟩ := fun b o hb => b2.frozen (p := ⟨b, o, none⟩) (by have := S2.out; have := S1.out; show b < _; omega)
  have hs := hsW.out
  have p2 : w2.cell? ⟨w.heap.size, 2, none⟩ = some (.int .i64 v) := by rw [cc _ _ (by omega), r2.out _ _ (by omega), cell_heap G0.out]; rfl
  have p3 : w2.cell? ⟨w.heap.size, 3, none⟩ = some (.int .i64 k) := by rw [cc _ _ (by omega), r2.out _ _ (by omega), cell_heap G0.out]; rfl
  have o0 : w2.cell? ⟨w.heap.size + 1 + 1, 0, none⟩ = some (.slice (some ⟨W.heap.size, 0, none⟩) xs.length xs.length) := by rw [cc _ _ (by omega)]; exact r0.out
  have o1 : w2.cell? ⟨w.heap.size + 1 + 1, 1, none⟩ = some (.slice none 0 0) := by rw [cc _ _ (by omega), r1.out _ (by omega), cell_heap G2.out]; rfl
  have o2 : w2.cell? ⟨w.heap.size + 1 + 1, 2, none⟩ = some (.int .i64 0) := by rw [cc _ _ (by omega), r1.out _ (by omega), cell_heap G2.out]; rfl
  have o3 : w2.cell? ⟨w.heap.size + 1 + 1, 3, none⟩ = some (.int .i64 0) := by rw [cc _ _ (by omega), r1.out _ (by omega), cell_heap G2.out]; rfl
  have i0 : w2.cell? ⟨w.heap.size + 1, 0, none⟩ = some (.slice none 0 0) := by rw [cc _ _ (by omega), r2.out _ _ (by omega), cell_heap G1.out]; rfl
  have i1 : w2.cell? ⟨w.heap.size + 1, 1, none⟩ = some (.slice none 0 0) := by rw [cc _ _ (by omega), r2.out _ _ (by omega), cell_heap G1.out]; rfl
  have i2 : w2.cell? ⟨w.heap.size + 1, 2, none⟩ = some (.int .i64 0) := by rw [cc _ _ (by omega), r2.out _ _ (by omega), cell_heap G1.out]; rfl
  have i3 : w2.cell? ⟨w.heap.size + 1, 3, none⟩ = some (.int .i64 0) := by rw [cc _ _ (by omega), r2.out _ _ (by omega), cell_heap G1.out]; rfl
  have fo : ∀ o, w2.frozen? ⟨w.heap.size + 1 + 1, o, none⟩ = false := fun o => by rw [ff _ _ (by omega), r3.out]; exact frozen_heap G2.out _
  have fi : ∀ o, w2.frozen? ⟨w.heap.size + 1, o, none⟩ = false := fun o => by rw [ff _ _ (by omega), r3.out]; exact frozen_heap G1.out _
  have AT : Hid (RunOwn w2 w.heap.size W.heap.size W2.heap.size xs ys) := by
    have e1 := (b2.block W.heap.size (by have := S2.out; have := S1.out; omega)).trans (K2.out.2 W.heap.size (by omega))
    exact ⟨by omega, by have := S2.out; have := S1.out; omega, by have := S2.out; have := S1.out; omega, A1.out.block (by have := S2.out; have := b2.size; omega) e1, at2, R1.out.block e1, row2⟩
  have B3 : Hid (Below w.heap.size w w2) := B2.out.trans (b2.mono B2.out.size)
  have SN : Hid (w.heap.size + 3 ≤ W.heap.size ∧ w.heap.size + 3 ≤ W2.heap.size) := ⟨by omega, by have := S2.out; have := S1.out; omega⟩
  clear at2 row2 b2 cc ff hs
  go_wp2
  refine bodyPost_ret (v := .agg #[.slice (some ⟨W.heap.size, 0, none⟩) xs.length xs.length, .slice (some ⟨W2.heap.size, 0, none⟩) ys.length ys.length, .int .i64 v, .int .i64 k]) (by simp [results, Try.results78, go_sem, i0, i1, i2, i3]) rfl ⟨W.heap.size, W2.heap.size, rfl, ?_, ?_⟩
  · have KK : KeepFrom (w.heap.size + 3) w2 _ := (((((((KeepFrom.refl (w.heap.size + 3) w2).setCell (p := ⟨w.heap.size + 1 + 1, 1, none⟩) (by show w.heap.size + 1 + 1 < _; omega) (.slice (some ⟨W2.heap.size, 0, none⟩) ys.length ys.length)).setCell (p := ⟨w.heap.size + 1 + 1, 2, none⟩) (by show w.heap.size + 1 + 1 < _; omega) (.int .i64 v)).setCell (p := ⟨w.heap.size + 1 + 1, 3, none⟩) (by show w.heap.size + 1 + 1 < _; omega) (.int .i64 k)).setCell (p := ⟨w.heap.size + 1, 0, none⟩) (by show w.heap.size + 1 < _; omega) (.slice (some ⟨W.heap.size, 0, none⟩) xs.length xs.length)).setCell (p := ⟨w.heap.size + 1, 1, none⟩) (by show w.heap.size + 1 < _; omega) (.slice (some ⟨W2.heap.size, 0, none⟩) ys.length ys.length)).setCell (p := ⟨w.heap.size + 1, 2, none⟩) (by show w.heap.size + 1 < _; omega) (.int .i64 v)).setCell (p := ⟨w.heap.size + 1, 3, none⟩) (by show w.heap.size + 1 < _; omega) (.int .i64 k)
    exact AT.out.keep KK SN.out.1 SN.out.2
  · exact ((((((B3.out.setCell (by show w.heap.size ≤ w.heap.size + 1 + 1; omega) _).setCell (by show w.heap.size ≤ w.heap.size + 1 + 1; omega) _).setCell (by show w.heap.size ≤ w.heap.size + 1 + 1; omega) _).setCell (by show w.heap.size ≤ w.heap.size + 1; omega) _).setCell (by show w.heap.size ≤ w.heap.size + 1; omega) _).setCell (by show w.heap.size ≤ w.heap.size + 1; omega) _).setCell (by show w.heap.size ≤ w.heap.size + 1; omega) _

end Go.Proofs.Ytbbbfnfpmaogoaa.Own

namespace Go.Proofs.Ytbbbfnfpmaogoaa.Own
open Go.RowKit
set_option linter.unusedVariables false

/-- Block b holds these cells, none of them frozen. -/
def Blk (w : World) (b : Nat) (C : Array Value) (t : TypeId) : Prop := w.heap[b]? = some (.cells C t (0, 0))
theorem Blk.cell {w : World} {b : Nat} {C : Array Value} {t : TypeId} (h : Blk w b C t) (o : Nat) : w.cell? ⟨b, o, none⟩ = C[o]? := cell_heap h o
theorem Blk.frozen {w : World} {b : Nat} {C : Array Value} {t : TypeId} (h : Blk w b C t) (o : Nat) : w.frozen? ⟨b, o, none⟩ = false := frozen_heap h o
theorem Blk.lt {w : World} {b : Nat} {C : Array Value} {t : TypeId} (h : Blk w b C t) : b < w.heap.size := (Array.getElem?_eq_some_iff.1 h).1
theorem Blk.below {w w' : World} {b B : Nat} {C : Array Value} {t : TypeId} (h : Blk w b C t) (hb : Below B w w') (hB : b < B) : Blk w' b C t := by
  unfold Blk; rw [hb.block _ hB]; exact h
theorem Blk.keep {w w' : World} {b : Nat} {C : Array Value} {t : TypeId} (h : Blk w b C t) (hb : Below w.heap.size w w') : Blk w' b C t := h.below hb h.lt
theorem Blk.new (w : World) (C : Array Value) (t : TypeId) : Blk (w.alloc (.cells C t)) w.heap.size C t := heap_new _ _
theorem Blk.alloc {w : World} {b : Nat} {C : Array Value} {t : TypeId} (h : Blk w b C t) (o : Obj) : Blk (w.alloc o) b C t := by
  unfold Blk; rw [heap_old _ _ _ h.lt]; exact h
theorem Blk.set {w : World} {b : Nat} {C : Array Value} {t : TypeId} (h : Blk w b C t) (o : Nat) (v : Value) : Blk (w.setCell ⟨b, o, none⟩ v) b (C.setIfInBounds o v) t := by
  have h1 : w.heap[b]? = _ := h
  unfold Blk
  simp [World.setCell, Array.getElem?_modify, h1]
theorem Blk.other {w : World} {b b' : Nat} {C : Array Value} {t : TypeId} (h : Blk w b C t) (hn : b ≠ b') (o : Nat) (v : Value) : Blk (w.setCell ⟨b', o, none⟩ v) b C t := by
  unfold Blk; rw [Below.heap_setCell _ _ _ _ hn]; exact h
theorem Blk.eq {w : World} {b : Nat} {C C' : Array Value} {t : TypeId} (h : Blk w b C t) (e : C = C') : Blk w b C' t := e ▸ h
theorem Blk.new2 (w : World) (o : Obj) (C : Array Value) (t : TypeId) : Blk ((w.alloc o).alloc (.cells C t)) (w.heap.size + 1) C t := heap_new2 _ _ _
theorem Blk.new3 (w : World) (o o' : Obj) (C : Array Value) (t : TypeId) : Blk (((w.alloc o).alloc o').alloc (.cells C t)) (w.heap.size + 1 + 1) C t := by
  have := Blk.new ((w.alloc o).alloc o') C t
  rw [size_new, size_new] at this
  exact this
theorem Blk.cells4 {w : World} {b : Nat} {x0 x1 x2 x3 : Value} {t : TypeId} (h : Blk w b #[x0, x1, x2, x3] t) : w.cell? ⟨b, 0, none⟩ = some x0 ∧ w.cell? ⟨b, 1, none⟩ = some x1 ∧ w.cell? ⟨b, 2, none⟩ = some x2 ∧ w.cell? ⟨b, 3, none⟩ = some x3 :=
  ⟨by rw [h.cell]; rfl, by rw [h.cell]; rfl, by rw [h.cell]; rfl, by rw [h.cell]; rfl⟩
theorem Blk.cells3 {w : World} {b : Nat} {x0 x1 x2 : Value} {t : TypeId} (h : Blk w b #[x0, x1, x2] t) : w.cell? ⟨b, 0, none⟩ = some x0 ∧ w.cell? ⟨b, 1, none⟩ = some x1 ∧ w.cell? ⟨b, 2, none⟩ = some x2 :=
  ⟨by rw [h.cell]; rfl, by rw [h.cell]; rfl, by rw [h.cell]; rfl⟩
theorem Blk.cells2 {w : World} {b : Nat} {x0 x1 : Value} {t : TypeId} (h : Blk w b #[x0, x1] t) : w.cell? ⟨b, 0, none⟩ = some x0 ∧ w.cell? ⟨b, 1, none⟩ = some x1 :=
  ⟨by rw [h.cell]; rfl, by rw [h.cell]; rfl⟩
theorem Blk.cells7 {w : World} {b : Nat} {x0 x1 x2 x3 x4 x5 x6 : Value} {t : TypeId} (h : Blk w b #[x0, x1, x2, x3, x4, x5, x6] t) : w.cell? ⟨b, 0, none⟩ = some x0 ∧ w.cell? ⟨b, 1, none⟩ = some x1 ∧ w.cell? ⟨b, 2, none⟩ = some x2 ∧ w.cell? ⟨b, 3, none⟩ = some x3 ∧ w.cell? ⟨b, 4, none⟩ = some x4 ∧ w.cell? ⟨b, 5, none⟩ = some x5 ∧ w.cell? ⟨b, 6, none⟩ = some x6 :=
  ⟨by rw [h.cell]; rfl, by rw [h.cell]; rfl, by rw [h.cell]; rfl, by rw [h.cell]; rfl, by rw [h.cell]; rfl, by rw [h.cell]; rfl, by rw [h.cell]; rfl⟩
/-- Three cells. -/
def C3 (w : World) (b : Nat) (x0 x1 x2 : Value) : Prop := b < w.heap.size ∧ w.cell? ⟨b, 0, none⟩ = some x0 ∧ w.cell? ⟨b, 1, none⟩ = some x1 ∧ w.cell? ⟨b, 2, none⟩ = some x2
theorem C3.below {w w' : World} {b : Nat} {x0 x1 x2 : Value} (h : C3 w b x0 x1 x2) (hb : Below w.heap.size w w') : C3 w' b x0 x1 x2 := by
  have e := fun o => hb.cell (p := ⟨b, o, none⟩) h.1
  exact ⟨Nat.lt_of_lt_of_le h.1 hb.size, by rw [e, e, e]; exact h.2⟩
theorem C3.new (w : World) (x0 x1 x2 : Value) (t : TypeId) : C3 (w.alloc (.cells #[x0, x1, x2] t)) w.heap.size x0 x1 x2 :=
  ⟨by rw [size_new]; omega, (Blk.new _ _ _).cells3⟩
theorem C3.alloc {w : World} {b : Nat} {x0 x1 x2 : Value} (h : C3 w b x0 x1 x2) (o : Obj) : C3 (w.alloc o) b x0 x1 x2 := h.below ((Below.refl _ _).alloc (Nat.le_refl _) _)
/-- Seven cells. -/
def C7 (w : World) (b : Nat) (x0 x1 x2 x3 x4 x5 x6 : Value) : Prop := b < w.heap.size ∧ w.cell? ⟨b, 0, none⟩ = some x0 ∧ w.cell? ⟨b, 1, none⟩ = some x1 ∧ w.cell? ⟨b, 2, none⟩ = some x2 ∧ w.cell? ⟨b, 3, none⟩ = some x3 ∧ w.cell? ⟨b, 4, none⟩ = some x4 ∧ w.cell? ⟨b, 5, none⟩ = some x5 ∧ w.cell? ⟨b, 6, none⟩ = some x6
theorem C7.below {w w' : World} {b : Nat} {x0 x1 x2 x3 x4 x5 x6 : Value} (h : C7 w b x0 x1 x2 x3 x4 x5 x6) (hb : Below w.heap.size w w') : C7 w' b x0 x1 x2 x3 x4 x5 x6 := by
  have e := fun o => hb.cell (p := ⟨b, o, none⟩) h.1
  exact ⟨Nat.lt_of_lt_of_le h.1 hb.size, by rw [e, e, e, e, e, e, e]; exact h.2⟩
theorem C7.new (w : World) (x0 x1 x2 x3 x4 x5 x6 : Value) (t : TypeId) : C7 (w.alloc (.cells #[x0, x1, x2, x3, x4, x5, x6] t)) w.heap.size x0 x1 x2 x3 x4 x5 x6 :=
  ⟨by rw [size_new]; omega, (Blk.new _ _ _).cells7⟩
theorem C7.alloc {w : World} {b : Nat} {x0 x1 x2 x3 x4 x5 x6 : Value} (h : C7 w b x0 x1 x2 x3 x4 x5 x6) (o : Obj) : C7 (w.alloc o) b x0 x1 x2 x3 x4 x5 x6 := h.below ((Below.refl _ _).alloc (Nat.le_refl _) _)
end Go.Proofs.Ytbbbfnfpmaogoaa.Own

namespace Go.Proofs.Ytbbbfnfpmaogoaa.Own
open Go.RowKit

/-- A list that a call made: from block B on, or empty. -/
def OwnB (w : World) (B : Nat) (a : Option Addr) (xs : List (Int × Int)) : Prop := xs = [] ∨ ∃ g, a = some ⟨g, 0, none⟩ ∧ B ≤ g ∧ BoxAt w g 0 xs ∧ (∀ o, w.frozen? ⟨g, o, none⟩ = false)
theorem OwnB.sl {w : World} {B : Nat} {a : Option Addr} {xs : List (Int × Int)} (h : OwnB w B a xs) : Sl w a xs := by
  rcases h with h | ⟨g, rfl, _, h, _⟩
  · exact .inl h
  · exact .inr ⟨g, 0, rfl, h⟩
theorem OwnB.below {w w' : World} {B : Nat} {a : Option Addr} {xs : List (Int × Int)} (h : OwnB w B a xs) (hb : Below w.heap.size w w') : OwnB w' B a xs := by
  rcases h with h | ⟨g, rfl, hB, h, hf⟩
  · exact .inl h
  · exact .inr ⟨g, rfl, hB, h.below hb, fun o => by rw [hb.frozen (p := ⟨g, o, none⟩) h.1]; exact hf o⟩
theorem OwnB.weaken {w : World} {B B' : Nat} {a : Option Addr} {xs : List (Int × Int)} (h : OwnB w B a xs) (hb : B' ≤ B) : OwnB w B' a xs := by
  rcases h with h | ⟨g, rfl, hB, h, hf⟩
  · exact .inl h
  · exact .inr ⟨g, rfl, Nat.le_trans hb hB, h, hf⟩
/-- Nothing but the list's own block has turned. -/
def OnlyB (a : Option Addr) (xs : List (Int × Int)) (w w' : World) : Prop := (xs = [] ∧ w' = w) ∨ ∃ g, xs ≠ [] ∧ a = some ⟨g, 0, none⟩ ∧ Only g w w'
theorem OnlyB.below {a : Option Addr} {xs : List (Int × Int)} {w w' : World} {B : Nat} (h : OnlyB a xs w w') (hB : ∀ g, xs ≠ [] → a = some ⟨g, 0, none⟩ → B ≤ g) : Below B w w' := by
  rcases h with ⟨_, rfl⟩ | ⟨g, hne, e, h⟩
  · exact Below.refl _ _
  · exact h.below (hB g hne e)
theorem OwnB.from {w : World} {B : Nat} {a : Option Addr} {xs : List (Int × Int)} (h : OwnB w B a xs) : ∀ g, xs ≠ [] → a = some ⟨g, 0, none⟩ → B ≤ g := by
  intro g hne e
  rcases h with h | ⟨g', e', hB, _⟩
  · exact absurd h hne
  · rw [e] at e'; injection e' with e'; injection e' with e1; omega
/-- Two lists that lie in different blocks. -/
def Apart (a b : Option Addr) (xs ys : List (Int × Int)) : Prop := xs = [] ∨ ys = [] ∨ ∀ g g', a = some ⟨g, 0, none⟩ → b = some ⟨g', 0, none⟩ → g ≠ g'
theorem OwnB.onlyB {w w' : World} {B : Nat} {a b : Option Addr} {xs ys : List (Int × Int)} (h : OwnB w B a xs) (ho : OnlyB b ys w w') (hap : Apart a b xs ys) : OwnB w' B a xs := by
  rcases ho with ⟨_, rfl⟩ | ⟨g, hne, rfl, ho⟩
  · exact h
  · rcases h with h | ⟨g', rfl, hB, h, hf⟩
    · exact .inl h
    · rcases hap with h0 | h0 | hap
      · exact .inl h0
      · exact absurd h0 hne
      · have hgg := hap g' g rfl rfl
        refine .inr ⟨g', rfl, hB, h.only ho hgg, fun o => ?_⟩
        rw [World.frozen?_of_block (w := w) (a := ⟨g', o, none⟩) (ho.block g' hgg)]; exact hf o
theorem Sl.onlyB {w w' : World} {a b : Option Addr} {xs ys : List (Int × Int)} {B : Nat} (h : Sl w a xs) (ho : OnlyB b ys w w') (hb : ∀ g, ys ≠ [] → b = some ⟨g, 0, none⟩ → B ≤ g) (ha : ∀ x, a = some x → x.block < B) : Sl w' a xs := by
  rcases ho with ⟨_, rfl⟩ | ⟨g, hne, rfl, ho⟩
  · exact h
  · rcases h with h | ⟨b, off, rfl, h⟩
    · exact .inl h
    · exact .inr ⟨b, off, rfl, h.only ho (by have := hb g hne rfl; have := ha _ rfl; simp at this; omega)⟩
theorem marks_nil (k : Int) : marks k 0 = [] := rfl
theorem nil_of {xs : List (Int × Int)} (h : xs.length = 0) : xs = [] := List.eq_nil_of_length_eq_zero h
end Go.Proofs.Ytbbbfnfpmaogoaa.Own

namespace Go.Proofs.Ytbbbfnfpmaogoaa.Own
open Go.RowKit

def C4 (w : World) (b : Nat) (x0 x1 x2 x3 : Value) : Prop := b < w.heap.size ∧ w.cell? ⟨b, 0, none⟩ = some x0 ∧ w.cell? ⟨b, 1, none⟩ = some x1 ∧ w.cell? ⟨b, 2, none⟩ = some x2 ∧ w.cell? ⟨b, 3, none⟩ = some x3
theorem C4.below {w w' : World} {b : Nat} {x0 x1 x2 x3 : Value} (h : C4 w b x0 x1 x2 x3) (hb : Below w.heap.size w w') : C4 w' b x0 x1 x2 x3 := by
  have e : ∀ o, w'.cell? ⟨b, o, none⟩ = w.cell? ⟨b, o, none⟩ := fun o => hb.cell (p := ⟨b, o, none⟩) h.1
  refine ⟨Nat.lt_of_lt_of_le h.1 hb.size, ?_⟩
  rw [e, e, e, e]; exact h.2
theorem C4.new (w : World) (x0 x1 x2 x3 : Value) (t : TypeId) : C4 (w.alloc (.cells #[x0, x1, x2, x3] t)) w.heap.size x0 x1 x2 x3 := by
  refine ⟨by rw [size_new]; omega, ?_⟩
  rw [cell_heap (heap_new _ _), cell_heap (heap_new _ _), cell_heap (heap_new _ _), cell_heap (heap_new _ _)]
  exact ⟨rfl, rfl, rfl, rfl⟩
theorem C4.alloc {w : World} {b : Nat} {x0 x1 x2 x3 : Value} (h : C4 w b x0 x1 x2 x3) (o : Obj) : C4 (w.alloc o) b x0 x1 x2 x3 := h.below ((Below.refl _ _).alloc (Nat.le_refl _) _)
/-- What lay below a mark, and the block at it. -/
theorem below_new (w : World) (o : Obj) : Below w.heap.size w (w.alloc o) := (Below.refl _ _).alloc (Nat.le_refl _) _
end Go.Proofs.Ytbbbfnfpmaogoaa.Own

namespace Go.Proofs.Ytbbbfnfpmaogoaa.Own
open Go.RowKit

structure Turned (L : List Nat) (w w' : World) : Prop where
  os : w'.os = w.os
  tape : w'.tape = w.tape
  output : w'.output = w.output
  size : w.heap.size ≤ w'.heap.size
  block : ∀ k, k < w.heap.size → k ∉ L → w'.heap[k]? = w.heap[k]?

theorem Turned.refl (L : List Nat) (w : World) : Turned L w w := ⟨rfl, rfl, rfl, Nat.le_refl _, fun _ _ _ => rfl⟩
theorem Turned.trans {L : List Nat} {a b c : World} (h : Turned L a b) (k : Turned L b c) : Turned L a c :=
  ⟨k.os.trans h.os, k.tape.trans h.tape, k.output.trans h.output, Nat.le_trans h.size k.size, fun i hi hn => (k.block i (Nat.lt_of_lt_of_le hi h.size) hn).trans (h.block i hi hn)⟩
theorem Turned.ofBelow {L : List Nat} {w w' : World} (h : Below w.heap.size w w') : Turned L w w' := ⟨h.os, h.tape, h.output, h.size, fun k hk _ => h.block k hk⟩
theorem Turned.ofOnly {L : List Nat} {g : Nat} {w w' : World} (h : Only g w w') (hg : g ∈ L) : Turned L w w' :=
  ⟨h.os, h.tape, h.output, Nat.le_of_eq h.size.symm, fun k _ hn => h.block k (fun e => hn (e ▸ hg))⟩
theorem Turned.ofOnlyB {L : List Nat} {a : Option Addr} {xs : List (Int × Int)} {w w' : World} (h : OnlyB a xs w w') (hg : ∀ g, a = some ⟨g, 0, none⟩ → g ∈ L) : Turned L w w' := by
  rcases h with ⟨_, rfl⟩ | ⟨g, _, e, h⟩
  · exact Turned.refl _ _
  · exact Turned.ofOnly h (hg g e)
theorem Turned.mono {L L' : List Nat} {w w' : World} (h : Turned L w w') (hs : ∀ x, x ∈ L → x ∈ L') : Turned L' w w' :=
  ⟨h.os, h.tape, h.output, h.size, fun k hk hn => h.block k hk (fun e => hn (hs _ e))⟩
theorem Turned.below {L : List Nat} {w w' : World} {B : Nat} (h : Turned L w w') (hL : ∀ x, x ∈ L → B ≤ x) (hB : B ≤ w.heap.size) : Below B w w' :=
  ⟨h.os, h.tape, h.output, h.size, fun k hk => h.block k (by omega) (fun e => by have := hL _ e; omega)⟩
theorem BoxAt.turned {L : List Nat} {w w' : World} {b off : Nat} {xs : List (Int × Int)} (h : BoxAt w b off xs) (ht : Turned L w w') (hb : b ∉ L) : BoxAt w' b off xs := by
  have e : ∀ o, w'.cell? ⟨b, o, none⟩ = w.cell? ⟨b, o, none⟩ := fun o => World.cell?_of_block (w := w) (a := ⟨b, o, none⟩) (ht.block b h.1 hb)
  exact ⟨Nat.lt_of_lt_of_le h.1 ht.size, fun i hi => by rw [e, e]; exact h.2 i hi⟩
theorem Sl.turned {L : List Nat} {w w' : World} {a : Option Addr} {xs : List (Int × Int)} (h : Sl w a xs) (ht : Turned L w w') (hb : ∀ x, a = some x → x.block ∉ L) : Sl w' a xs := by
  rcases h with h | ⟨b, off, rfl, h⟩
  · exact .inl h
  · exact .inr ⟨b, off, rfl, h.turned ht (hb _ rfl)⟩
theorem OwnB.turned {L : List Nat} {w w' : World} {B : Nat} {a : Option Addr} {xs : List (Int × Int)} (h : OwnB w B a xs) (ht : Turned L w w') (hb : ∀ g, a = some ⟨g, 0, none⟩ → g ∉ L) : OwnB w' B a xs := by
  rcases h with h | ⟨g, rfl, hB, h, hf⟩
  · exact .inl h
  · exact .inr ⟨g, rfl, hB, h.turned ht (hb g rfl), fun o => by rw [World.frozen?_of_block (w := w) (a := ⟨g, o, none⟩) (ht.block g h.1 (hb g rfl))]; exact hf o⟩
theorem C4.turned {L : List Nat} {w w' : World} {b : Nat} {x0 x1 x2 x3 : Value} (h : C4 w b x0 x1 x2 x3) (ht : Turned L w w') (hb : b ∉ L) : C4 w' b x0 x1 x2 x3 := by
  have e : ∀ o, w'.cell? ⟨b, o, none⟩ = w.cell? ⟨b, o, none⟩ := fun o => World.cell?_of_block (w := w) (a := ⟨b, o, none⟩) (ht.block b h.1 hb)
  refine ⟨Nat.lt_of_lt_of_le h.1 ht.size, ?_⟩
  rw [e, e, e, e]; exact h.2
end Go.Proofs.Ytbbbfnfpmaogoaa.Own

namespace Go.Proofs.Ytbbbfnfpmaogoaa.Own
open Go.RowKit
set_option linter.unusedVariables false

/-- What an entry says: whether there is none; of whom; which; looked at; put; value; code. -/
structure EB where
  n : Bool
  p : Int
  q : Int
  xs : List P2
  ys : List P2
  v : Int
  k : Int
def e0 : EB := ⟨false, 0, 0, [], [], 0, 0⟩
/-- A vote: its ballot and its entry. -/
abbrev V := Int × EB
/-- A vote in memory: what it says, and where its two lists lie. -/
structure VM where
  bal : Int
  b : EB
  a1 : Option Addr
  c1 : Nat
  a2 : Option Addr
  c2 : Nat
def v0 : VM := ⟨0, e0, none, 0, none, 0⟩
instance : Inhabited VM := ⟨v0⟩
def VM.body (x : VM) : V := (x.bal, x.b)
def VM.cells (x : VM) : Array Value := #[.int .i64 x.bal, .bool x.b.n, .int .i64 x.b.p, .int .i64 x.b.q, .slice x.a1 x.b.xs.length x.c1, .slice x.a2 x.b.ys.length x.c2, .int .i64 x.b.v, .int .i64 x.b.k]
def bodies (vs : List VM) : List V := vs.map VM.body
theorem bodies_len (vs : List VM) : (bodies vs).length = vs.length := by simp [bodies]
theorem bodies_getD (vs : List VM) (i : Nat) : (bodies vs).getD i (0, e0) = (vs.getD i v0).body := by
  unfold bodies
  by_cases h : i < vs.length
  · simp [List.getD, h]
  · simp [List.getD, h, v0, VM.body]
theorem bodies_eq {vs us : List VM} (h : bodies vs = bodies us) : vs.length = us.length ∧ ∀ i, (vs.getD i v0).body = (us.getD i v0).body :=
  ⟨by rw [← bodies_len, h, bodies_len], fun i => by rw [← bodies_getD, h, bodies_getD]⟩
theorem body_eq {x y : VM} (h : x.body = y.body) : x.bal = y.bal ∧ x.b = y.b := by
  unfold VM.body at h
  injection h with h1 h2
  exact ⟨h1, h2⟩

/-- A vote's eight cells, and its two lists. -/
def VC (w : World) (b o : Nat) (x : VM) : Prop :=
  (w.cell? ⟨b, o, none⟩ = some (.int .i64 x.bal) ∧ w.cell? ⟨b, o + 1, none⟩ = some (.bool x.b.n) ∧ w.cell? ⟨b, o + 2, none⟩ = some (.int .i64 x.b.p) ∧ w.cell? ⟨b, o + 3, none⟩ = some (.int .i64 x.b.q) ∧ w.cell? ⟨b, o + 4, none⟩ = some (.slice x.a1 x.b.xs.length x.c1) ∧ w.cell? ⟨b, o + 5, none⟩ = some (.slice x.a2 x.b.ys.length x.c2) ∧ w.cell? ⟨b, o + 6, none⟩ = some (.int .i64 x.b.v) ∧ w.cell? ⟨b, o + 7, none⟩ = some (.int .i64 x.b.k)) ∧ Sl w x.a1 x.b.xs ∧ Sl w x.a2 x.b.ys
theorem VC.below {w w' : World} {b o : Nat} {x : VM} (h : VC w b o x) (hlt : b < w.heap.size) (hb : Below w.heap.size w w') : VC w' b o x := by
  obtain ⟨h1, h2, h3⟩ := h
  have e := fun o => hb.cell (p := ⟨b, o, none⟩) hlt
  exact ⟨by rw [e, e, e, e, e, e, e, e]; exact h1, h2.below hb, h3.below hb⟩
/-- Votes in memory, one behind the other. -/
def VAt (w : World) (b off : Nat) (vs : List VM) : Prop := b < w.heap.size ∧ ∀ i, i < vs.length → VC w b (off + i * 8) (vs.getD i v0)
theorem VAt.below {w w' : World} {b off : Nat} {vs : List VM} (h : VAt w b off vs) (hb : Below w.heap.size w w') : VAt w' b off vs :=
  ⟨Nat.lt_of_lt_of_le h.1 hb.size, fun i hi => (h.2 i hi).below h.1 hb⟩
/-- What a slice of votes leads to. -/
def SlV (w : World) (a : Option Addr) (vs : List VM) : Prop := vs = [] ∨ ∃ b off, a = some ⟨b, off, none⟩ ∧ VAt w b off vs
theorem SlV.below {w w' : World} {a : Option Addr} {vs : List VM} (h : SlV w a vs) (hb : Below w.heap.size w w') : SlV w' a vs := by
  rcases h with h | ⟨b, off, rfl, h⟩
  · exact .inl h
  · exact .inr ⟨b, off, rfl, h.below hb⟩
/-- The lists of a vote are of a length that the walks take. -/
def VL (x : VM) : Prop := x.b.xs.length ≤ 2 ^ 40 ∧ x.b.ys.length ≤ 2 ^ 40 ∧ x.b.xs.length ≤ x.c1 ∧ x.b.ys.length ≤ x.c2
def VLs (vs : List VM) : Prop := ∀ i, i < vs.length → VL (vs.getD i v0)
/-- So many boxes the first k votes have looked at and put. -/
def sumV (vs : List VM) : Nat → Nat
  | 0 => 0
  | k + 1 => sumV vs k + ((vs.getD k v0).b.xs.length + (vs.getD k v0).b.ys.length)
theorem sumV_mono (vs : List VM) {i k : Nat} (h : i ≤ k) : sumV vs i ≤ sumV vs k := by
  induction k with
  | zero => obtain rfl : i = 0 := by omega
            exact Nat.le_refl _
  | succ k ih =>
    by_cases e : i = k + 1
    · subst e; exact Nat.le_refl _
    · have := ih (by omega); simp only [sumV]; omega
theorem sumV_at (vs : List VM) {i k : Nat} (h : i < k) : (vs.getD i v0).b.xs.length + (vs.getD i v0).b.ys.length ≤ sumV vs k := by
  have := sumV_mono vs (show i + 1 ≤ k by omega)
  simp only [sumV] at this
  omega

theorem snoc_lt {α : Type} (l : List α) (x d : α) {i : Nat} (h : i < l.length) : (l ++ [x]).getD i d = l.getD i d := by simp [List.getD, List.getElem?_append_left h]
theorem snoc_eq {α : Type} (l : List α) (x d : α) : (l ++ [x]).getD l.length d = x := by simp [List.getD]
theorem snoc_eq' {α : Type} (l : List α) (x d : α) {i : Nat} (h : i = l.length) : (l ++ [x]).getD i d = x := by rw [h]; exact snoc_eq _ _ _

theorem Blk.cells8 {w : World} {b : Nat} {x0 x1 x2 x3 x4 x5 x6 x7 : Value} {t : TypeId} (h : Blk w b #[x0, x1, x2, x3, x4, x5, x6, x7] t) : w.cell? ⟨b, 0, none⟩ = some x0 ∧ w.cell? ⟨b, 1, none⟩ = some x1 ∧ w.cell? ⟨b, 2, none⟩ = some x2 ∧ w.cell? ⟨b, 3, none⟩ = some x3 ∧ w.cell? ⟨b, 4, none⟩ = some x4 ∧ w.cell? ⟨b, 5, none⟩ = some x5 ∧ w.cell? ⟨b, 6, none⟩ = some x6 ∧ w.cell? ⟨b, 7, none⟩ = some x7 :=
  ⟨by rw [h.cell]; rfl, by rw [h.cell]; rfl, by rw [h.cell]; rfl, by rw [h.cell]; rfl, by rw [h.cell]; rfl, by rw [h.cell]; rfl, by rw [h.cell]; rfl, by rw [h.cell]; rfl⟩
/-- A row of n votes of one's own. -/
def RowV (w : World) (b n : Nat) : Prop := ∃ C t, w.heap[b]? = some (.cells C t (0, 0)) ∧ C.size = n * 8 ∧ ∀ v ∈ C, v.oneCell' = true
theorem RowV.setCell {w : World} {b n : Nat} (h : RowV w b n) (o : Nat) (v : Value) (hv : v.oneCell' = true) : RowV (w.setCell ⟨b, o, none⟩ v) b n := by
  obtain ⟨C, t, h1, h2, h3⟩ := h
  refine ⟨C.setIfInBounds o v, t, ?_, by simpa using h2, ?_⟩
  · simp [World.setCell, Array.getElem?_modify, h1]
  · intro u hu
    rcases Array.mem_or_eq_of_mem_setIfInBounds hu with h | h
    · exact h3 u h
    · rw [h]; exact hv
theorem RowV.cell {w : World} {b n : Nat} (h : RowV w b n) (o : Nat) (ho : o < n * 8) : ∃ v, w.cell? ⟨b, o, none⟩ = some v ∧ v.oneCell' = true := by
  obtain ⟨C, t, h1, h2, h3⟩ := h
  rw [cell_heap h1]
  exact ⟨C[o]'(by omega), by simp, h3 _ (by simp)⟩
theorem RowV.frozen {w : World} {b n : Nat} (h : RowV w b n) (o : Nat) : w.frozen? ⟨b, o, none⟩ = false := by
  obtain ⟨C, t, h1, _⟩ := h
  exact frozen_heap h1 o
theorem RowV.lt {w : World} {b n : Nat} (h : RowV w b n) : b < w.heap.size := by
  obtain ⟨C, t, h1, _⟩ := h
  exact (Array.getElem?_eq_some_iff.1 h1).1
theorem RowV.block {w w' : World} {b n : Nat} (h : RowV w b n) (hb : w'.heap[b]? = w.heap[b]?) : RowV w' b n := by
  obtain ⟨C, t, h1, h2⟩ := h
  exact ⟨C, t, by rw [hb]; exact h1, h2⟩
theorem RowV.below {w w' : World} {b n B : Nat} (h : RowV w b n) (hb : Below B w w') (hB : b < B) : RowV w' b n := h.block (hb.block _ hB)

/-- Eight cells of one block, stored one behind the other: what lies there then. -/
def set8 (w : World) (b o : Nat) (x : VM) : World := (((((((w.setCell ⟨b, o, none⟩ (.int .i64 x.bal)).setCell ⟨b, o + 1, none⟩ (.bool x.b.n)).setCell ⟨b, o + 2, none⟩ (.int .i64 x.b.p)).setCell ⟨b, o + 3, none⟩ (.int .i64 x.b.q)).setCell ⟨b, o + 4, none⟩ (.slice x.a1 x.b.xs.length x.c1)).setCell ⟨b, o + 5, none⟩ (.slice x.a2 x.b.ys.length x.c2)).setCell ⟨b, o + 6, none⟩ (.int .i64 x.b.v)).setCell ⟨b, o + 7, none⟩ (.int .i64 x.b.k)
theorem set8_size (w : World) (b o : Nat) (x : VM) : (set8 w b o x).heap.size = w.heap.size := by simp [set8, World.setCell]
theorem set8_turned (w : World) (b o : Nat) (x : VM) : Turned [b] w (set8 w b o x) := by
  have S : ∀ (u : World) (o' : Nat) (v : Value), Turned [b] u (u.setCell ⟨b, o', none⟩ v) := fun u o' v => ⟨rfl, rfl, rfl, by simp [World.setCell], fun k _ hn => Below.heap_setCell _ _ _ _ (by simpa using hn)⟩
  unfold set8
  exact (((((((S _ _ _).trans (S _ _ _)).trans (S _ _ _)).trans (S _ _ _)).trans (S _ _ _)).trans (S _ _ _)).trans (S _ _ _)).trans (S _ _ _)
theorem set8_row {w : World} {b n : Nat} (h : RowV w b n) (o : Nat) (x : VM) : RowV (set8 w b o x) b n := by
  unfold set8
  exact (((((((h.setCell _ _ rfl).setCell _ _ rfl).setCell _ _ rfl).setCell _ _ rfl).setCell _ _ rfl).setCell _ _ rfl).setCell _ _ rfl).setCell _ _ rfl
theorem set8_below {w a : World} {B b : Nat} (h : Below B a w) (hB : B ≤ b) (o : Nat) (x : VM) : Below B a (set8 w b o x) := by
  unfold set8
  exact (((((((h.setCell hB _).setCell hB _).setCell hB _).setCell hB _).setCell hB _).setCell hB _).setCell hB _).setCell hB _
theorem set8_cells {w : World} {b n : Nat} (h : RowV w b n) (i : Nat) (hi : i < n) (x : VM) :
    ((set8 w b (i * 8) x).cell? ⟨b, i * 8, none⟩ = some (.int .i64 x.bal) ∧ (set8 w b (i * 8) x).cell? ⟨b, i * 8 + 1, none⟩ = some (.bool x.b.n) ∧ (set8 w b (i * 8) x).cell? ⟨b, i * 8 + 2, none⟩ = some (.int .i64 x.b.p) ∧ (set8 w b (i * 8) x).cell? ⟨b, i * 8 + 3, none⟩ = some (.int .i64 x.b.q) ∧ (set8 w b (i * 8) x).cell? ⟨b, i * 8 + 4, none⟩ = some (.slice x.a1 x.b.xs.length x.c1) ∧ (set8 w b (i * 8) x).cell? ⟨b, i * 8 + 5, none⟩ = some (.slice x.a2 x.b.ys.length x.c2) ∧ (set8 w b (i * 8) x).cell? ⟨b, i * 8 + 6, none⟩ = some (.int .i64 x.b.v) ∧ (set8 w b (i * 8) x).cell? ⟨b, i * 8 + 7, none⟩ = some (.int .i64 x.b.k)) ∧ ∀ o, (o < i * 8 ∨ i * 8 + 8 ≤ o) → (set8 w b (i * 8) x).cell? ⟨b, o, none⟩ = w.cell? ⟨b, o, none⟩ := by
  obtain ⟨C, t, h1, h2, h3⟩ := h
  have hs : ∀ (u : World) (D : Array Value) (o : Nat) (v : Value), u.heap[b]? = some (.cells D t (0, 0)) → (u.setCell ⟨b, o, none⟩ v).heap[b]? = some (.cells (D.setIfInBounds o v) t (0, 0)) := fun u D o v h => by simp [World.setCell, Array.getElem?_modify, h]
  have H := hs _ _ (i * 8 + 7) (.int .i64 x.b.k) (hs _ _ (i * 8 + 6) (.int .i64 x.b.v) (hs _ _ (i * 8 + 5) (.slice x.a2 x.b.ys.length x.c2) (hs _ _ (i * 8 + 4) (.slice x.a1 x.b.xs.length x.c1) (hs _ _ (i * 8 + 3) (.int .i64 x.b.q) (hs _ _ (i * 8 + 2) (.int .i64 x.b.p) (hs _ _ (i * 8 + 1) (.bool x.b.n) (hs _ _ (i * 8) (.int .i64 x.bal) h1)))))))
  have H' : (set8 w b (i * 8) x).heap[b]? = _ := H
  clear H hs
  have sz : i * 8 + 7 < C.size := by omega
  have K : ∀ o, (set8 w b (i * 8) x).cell? ⟨b, o, none⟩ = _ := fun o => cell_heap H' o
  have K0 : ∀ o, w.cell? ⟨b, o, none⟩ = _ := fun o => cell_heap h1 o
  clear H'
  refine ⟨⟨?_, ?_, ?_, ?_, ?_, ?_, ?_, ?_⟩, fun o ho => ?_⟩
  all_goals rw [K]
  case refine_9 => rw [K0]; simp only [Array.getElem?_setIfInBounds]; repeat (rw [if_neg (by omega)])
  all_goals
    simp only [Array.getElem?_setIfInBounds, Array.size_setIfInBounds]
    repeat (rw [if_neg (by omega)])
    rw [if_pos trivial, if_pos (by omega)]

/-- Where a copied vote lies. -/
def vmOf (g : Nat × Nat) (x : V) : VM := ⟨x.1, x.2, some ⟨g.1, 0, none⟩, x.2.xs.length, some ⟨g.2, 0, none⟩, x.2.ys.length⟩
theorem vmOf_body (g : Nat × Nat) (x : V) : (vmOf g x).body = x := rfl
/-- Votes in memory of their own: the list in block b, the lists of vote i in the blocks gs i. -/
structure CopyV (w : World) (b : Nat) (gs : List (Nat × Nat)) (bs : List V) : Prop where
  len : gs.length = bs.length
  lt : b < w.heap.size
  cell : ∀ i, i < bs.length → VC w b (i * 8) (vmOf (gs.getD i (0, 0)) (bs.getD i (0, e0)))
  own : ∀ i, i < bs.length → RunOwn w (b + 1) (gs.getD i (0, 0)).1 (gs.getD i (0, 0)).2 (bs.getD i (0, e0)).2.xs (bs.getD i (0, e0)).2.ys
  asc : ∀ i j, i < j → j < bs.length → ∀ g, g = (gs.getD i (0, 0)).1 ∨ g = (gs.getD i (0, 0)).2 → g < (gs.getD j (0, 0)).1 ∧ g < (gs.getD j (0, 0)).2
theorem CopyV.below {w w' : World} {b : Nat} {gs : List (Nat × Nat)} {bs : List V} (h : CopyV w b gs bs) (hb : Below w.heap.size w w') : CopyV w' b gs bs :=
  ⟨h.len, Nat.lt_of_lt_of_le h.lt hb.size, fun i hi => (h.cell i hi).below h.lt hb, fun i hi => (h.own i hi).below hb, h.asc⟩
theorem CopyV.nil {w : World} {b : Nat} (h : b < w.heap.size) : CopyV w b [] [] :=
  ⟨rfl, h, fun i hi => by simp at hi, fun i hi => by simp at hi, fun i j _ hj => by simp at hj⟩
def vmsOf (gs : List (Nat × Nat)) (bs : List V) : List VM := (List.range bs.length).map fun i => vmOf (gs.getD i (0, 0)) (bs.getD i (0, e0))
theorem vmsOf_len (gs : List (Nat × Nat)) (bs : List V) : (vmsOf gs bs).length = bs.length := by simp [vmsOf]
theorem vmsOf_at (gs : List (Nat × Nat)) (bs : List V) {i : Nat} (hi : i < bs.length) : (vmsOf gs bs).getD i v0 = vmOf (gs.getD i (0, 0)) (bs.getD i (0, e0)) := by simp [vmsOf, List.getD, hi]
theorem vmsOf_bodies (gs : List (Nat × Nat)) (bs : List V) : bodies (vmsOf gs bs) = bs := by
  unfold bodies vmsOf
  rw [List.map_map]
  apply List.ext_getElem
  · simp
  · intro i h1 h2
    simp at h1
    simp [List.getD, h1, vmOf, VM.body]
theorem CopyV.sl {w : World} {b : Nat} {gs : List (Nat × Nat)} {bs : List V} (h : CopyV w b gs bs) : SlV w (some ⟨b, 0, none⟩) (vmsOf gs bs) :=
  .inr ⟨b, 0, rfl, h.lt, fun i hi => by
    rw [vmsOf_len] at hi
    rw [vmsOf_at gs bs hi, Nat.zero_add]
    exact h.cell i hi⟩
theorem CopyV.vls {gs : List (Nat × Nat)} {bs : List V} (h : ∀ i, i < bs.length → (bs.getD i (0, e0)).2.xs.length ≤ 2 ^ 40 ∧ (bs.getD i (0, e0)).2.ys.length ≤ 2 ^ 40) : VLs (vmsOf gs bs) := fun i hi => by
  rw [vmsOf_len] at hi
  rw [vmsOf_at gs bs hi]
  exact ⟨(h i hi).1, (h i hi).2, Nat.le_refl _, Nat.le_refl _⟩

theorem Sl.turnedN {L : List Nat} {w w' : World} {a : Option Addr} {xs : List P2} (h : Sl w a xs) (ht : Turned L w w') (hL : xs = [] ∨ ∀ x, a = some x → x.block ∉ L) : Sl w' a xs := by
  rcases h with h | ⟨b, off, rfl, h⟩
  · exact .inl h
  rcases hL with h' | hL
  · exact .inl h'
  · exact .inr ⟨b, off, rfl, h.block ht.size (ht.block b h.1 (hL _ rfl))⟩
theorem RunOwn.turnedN {L : List Nat} {w w' : World} {B g1 g2 : Nat} {xs ys : List P2} (h : RunOwn w B g1 g2 xs ys) (ht : Turned L w w') (h1 : g1 ∉ L) (h2 : g2 ∉ L) : RunOwn w' B g1 g2 xs ys := by
  obtain ⟨o1, o2, o3, o4, o5, o6, o7⟩ := h
  have e1 := ht.block g1 o4.1 h1
  have e2 := ht.block g2 o5.1 h2
  exact ⟨o1, o2, o3, o4.block ht.size e1, o5.block ht.size e2, o6.block e1, o7.block e2⟩

/-- One vote more has been copied. -/
theorem CopyV.snoc {w w1 : World} {b n g1 g2 : Nat} {gs : List (Nat × Nat)} {bs : List V} {x : V} (h : CopyV w b gs bs) (hb : Below w.heap.size w w1) (ho : RunOwn w1 w.heap.size g1 g2 x.2.xs x.2.ys) (hr : RowV w1 b n) (hn : bs.length < n) :
    CopyV (set8 w1 b (bs.length * 8) (vmOf (g1, g2) x)) b (gs ++ [(g1, g2)]) (bs ++ [x]) := by
  have h1 := h.below hb
  have hl := h.len
  have h0 := h.lt
  have T := set8_turned w1 b (bs.length * 8) (vmOf (g1, g2) x)
  have P := set8_cells hr bs.length hn (vmOf (g1, g2) x)
  have elim : ∀ i, i < (bs ++ [x]).length → i < bs.length ∨ i = bs.length := fun i hi => by simp at hi; omega
  have n1 : g1 ∉ [b] := by have := ho.1; simp only [List.mem_singleton]; omega
  have n2 : g2 ∉ [b] := by have := ho.2.1; simp only [List.mem_singleton]; omega
  have OX := ho.turnedN T n1 n2
  have lo : ∀ i, i < bs.length → (gs.getD i (0, 0)).1 ∉ [b] ∧ (gs.getD i (0, 0)).2 ∉ [b] := fun i hi => by
    have := (h.own i hi).1
    have := (h.own i hi).2.1
    constructor <;> simp only [List.mem_singleton] <;> omega
  refine ⟨by simp [hl], by rw [set8_size]; exact h1.lt, fun i hi => ?_, fun i hi => ?_, fun i j hij hj => ?_⟩
  · rcases elim i hi with h' | h'
    · rw [snoc_lt _ _ _ h', snoc_lt _ _ _ (by omega)]
      obtain ⟨c, s1, s2⟩ := h1.cell i h'
      have e := fun o (ho : o < bs.length * 8) => P.2 o (.inl ho)
      refine ⟨?_, s1.turnedN T (.inr fun y hy => ?_), s2.turnedN T (.inr fun y hy => ?_)⟩
      · rw [e _ (by omega), e _ (by omega), e _ (by omega), e _ (by omega), e _ (by omega), e _ (by omega), e _ (by omega), e _ (by omega)]; exact c
      · simp only [vmOf, Option.some.injEq] at hy; rw [← hy]; exact (lo i h').1
      · simp only [vmOf, Option.some.injEq] at hy; rw [← hy]; exact (lo i h').2
    · subst h'
      rw [snoc_eq, snoc_eq' gs _ _ hl.symm]
      exact ⟨P.1, .inr ⟨_, _, rfl, OX.2.2.2.1⟩, .inr ⟨_, _, rfl, OX.2.2.2.2.1⟩⟩
  · rcases elim i hi with h' | h'
    · rw [snoc_lt _ _ _ h', snoc_lt _ _ _ (by omega)]
      exact (h1.own i h').turnedN T (lo i h').1 (lo i h').2
    · subst h'
      rw [snoc_eq, snoc_eq' gs _ _ hl.symm]
      exact ⟨by have := OX.1; show b + 1 ≤ g1; omega, by have := OX.2.1; show b + 1 ≤ g2; omega, OX.2.2⟩
  · rcases elim j hj with h' | h'
    · rw [snoc_lt _ _ _ (by omega), snoc_lt _ _ _ (by omega)]; exact h.asc i j hij h'
    · subst h'
      rw [snoc_lt _ _ _ (by omega), snoc_eq' gs _ _ hl.symm]
      have a1 := (h.own i hij).2.2.2.1.1
      have a2 := (h.own i hij).2.2.2.2.1.1
      have := ho.1
      have := ho.2.1
      intro g hg
      rcases hg with rfl | rfl
      · exact ⟨by show _ < g1; omega, by show _ < g2; omega⟩
      · exact ⟨by show _ < g1; omega, by show _ < g2; omega⟩
end Go.Proofs.Ytbbbfnfpmaogoaa.Own
