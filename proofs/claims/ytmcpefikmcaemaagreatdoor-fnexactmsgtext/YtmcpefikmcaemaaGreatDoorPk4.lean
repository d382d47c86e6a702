/-
  Own texts, bundled: ProgOk2, ExecMath, RunEq, RunOps.
-/
import Derived.Test.YtmcpefikmcaemaaGreatDoorPk3
import Derived.Test.YtmcpefikmcaemaaGreatDoorPk2
namespace Go.Proofs.YtmcpefikmcaemaaGreatDoor.Own
open Go.RowKit

def numOk2 (n : Int) : Bool := decide (-1000000 ≤ n) && decide (n ≤ 1000000)
def regOk (n : Int) : Bool := decide (0 ≤ n) && decide (n ≤ 3)
def lessOk (n : Int) : Bool := decide (1 ≤ n) && decide (n ≤ 10)
/-- An instruction is right. -/
def insOk (p : Q4) : Bool :=
  if p.1 = 1 ∨ p.1 = 2 ∨ p.1 = 4 ∨ p.1 = 5 then regOk p.2.1 && regOk p.2.2.1 && p.2.2.2 == 0
  else if p.1 = 3 then regOk p.2.1 && p.2.2.1 == 0 && numOk2 p.2.2.2
  else if p.1 = 6 then regOk p.2.1 && regOk p.2.2.1 && lessOk p.2.2.2
  else if p.1 = 7 then p.2.1 == 0 && p.2.2.1 == 0 && p.2.2.2 == 0
  else false
/-- A program is ok. -/
def progOk (xs : List Q4) : Bool := decide (xs.length ≤ 10) && xs.all insOk

theorem insOk_1 (a b n : Int) : insOk (1, a, b, n) = (regOk a && regOk b && n == 0) := rfl
theorem insOk_2 (a b n : Int) : insOk (2, a, b, n) = (regOk a && regOk b && n == 0) := rfl
theorem insOk_3 (a b n : Int) : insOk (3, a, b, n) = (regOk a && b == 0 && numOk2 n) := rfl
theorem insOk_4 (a b n : Int) : insOk (4, a, b, n) = (regOk a && regOk b && n == 0) := rfl
theorem insOk_5 (a b n : Int) : insOk (5, a, b, n) = (regOk a && regOk b && n == 0) := rfl
theorem insOk_6 (a b n : Int) : insOk (6, a, b, n) = (regOk a && regOk b && lessOk n) := rfl
theorem insOk_7 (a b n : Int) : insOk (7, a, b, n) = (a == 0 && b == 0 && n == 0) := rfl
theorem insOk_no {k : Int} (a b n : Int) (h : k ≠ 1 ∧ k ≠ 2 ∧ k ≠ 3 ∧ k ≠ 4 ∧ k ≠ 5 ∧ k ≠ 6 ∧ k ≠ 7) : insOk (k, a, b, n) = false := by
  obtain ⟨h1, h2, h3, h4, h5, h6, h7⟩ := h
  simp [insOk, h1, h2, h3, h4, h5, h6, h7]
end Go.Proofs.YtmcpefikmcaemaaGreatDoor.Own

namespace Go.Proofs.YtmcpefikmcaemaaGreatDoor.Own
open Go.RowKit
set_option linter.unusedVariables false

abbrev P2 := Int × Int
def z2 : P2 := (0, 0)

/-- What stands at a place is of a box, right, and its box has not come ahead of it. -/
def okAt (f : Int → Bool) (xs : List P2) (i : Nat) : Bool := regOk (xs.getD i (0, 0)).1 && f (xs.getD i (0, 0)).2 && !((xs.take i).any fun p => p.1 == (xs.getD i (0, 0)).1)
def okAll (f : Int → Bool) (xs : List P2) : Bool := (List.range xs.length).all (okAt f xs)
theorem okAll_iff {f : Int → Bool} {xs : List P2} : okAll f xs = true ↔ ∀ i, i < xs.length → okAt f xs i = true := by
  simp [okAll, List.all_eq_true]
theorem okAll_false {f : Int → Bool} {xs : List P2} {i : Nat} (hi : i < xs.length) (h : okAt f xs i = false) : okAll f xs = false := by
  rw [Bool.eq_false_iff]
  intro e
  rw [okAll_iff.1 e i hi] at h
  cases h

def verOk (n : Int) : Bool := decide (0 ≤ n) && decide (n ≤ 1000000)
def endOk (k v : Int) (nr np : Nat) : Bool :=
  if k = 0 then numOk v else if k = 1 ∨ k = 2 then v == 0 && decide (np = 0) else if k = 3 then v == 0 && decide (np = 0) && decide (nr = 0) else false
/-- A run is right. -/
def execOk (xs ys : List P2) (v k : Int) : Bool := endOk k v xs.length ys.length && okAll verOk xs && okAll numOk ys

theorem endOk_0 (v : Int) (nr np : Nat) : endOk 0 v nr np = numOk v := rfl
theorem endOk_1 (v : Int) (nr np : Nat) : endOk 1 v nr np = (v == 0 && decide (np = 0)) := rfl
theorem endOk_2 (v : Int) (nr np : Nat) : endOk 2 v nr np = (v == 0 && decide (np = 0)) := rfl
theorem endOk_3 (v : Int) (nr np : Nat) : endOk 3 v nr np = (v == 0 && decide (np = 0) && decide (nr = 0)) := rfl
theorem endOk_no {k : Int} (v : Int) (nr np : Nat) (h : k ≠ 0 ∧ k ≠ 1 ∧ k ≠ 2 ∧ k ≠ 3) : endOk k v nr np = false := by
  obtain ⟨h0, h1, h2, h3⟩ := h
  simp [endOk, h0, h1, h2, h3]

/-- The boxes that have come, as marks. -/
def seen (xs : List P2) (k : Nat) (j : Nat) : Bool := (xs.take k).any fun p => p.1 == (j : Int)
theorem seen_zero (xs : List P2) (j : Nat) : seen xs 0 j = false := by simp [seen]
theorem seen_succ (xs : List P2) (k j : Nat) (h : k < xs.length) : seen xs (k + 1) j = (seen xs k j || (xs.getD k (0, 0)).1 == (j : Int)) := by
  unfold seen
  rw [List.take_succ_eq_append_getElem h, List.any_append]
  simp [List.getD, h]
theorem okAt_seen (f : Int → Bool) (xs : List P2) (k : Nat) (j : Nat) (hj : (xs.getD k (0, 0)).1 = (j : Int)) : okAt f xs k = (regOk (j : Int) && f (xs.getD k (0, 0)).2 && !seen xs k j) := by
  simp only [okAt, seen, hj]
end Go.Proofs.YtmcpefikmcaemaaGreatDoor.Own

namespace Go.Proofs.YtmcpefikmcaemaaGreatDoor.Own
open Go.RowKit
set_option linter.unusedVariables false
set_option linter.unusedSimpArgs false

set_option maxRecDepth 100000 in
set_option maxHeartbeats 1000000 in
theorem eqRun (a1 a2 b1 b2 : Option Addr) (c1 c2 d1 d2 : Nat) (xs ys zs us : List P2) (v k v' k' : Int) (w : World) (h1 : Sl w a1 xs) (h2 : Sl w a2 ys) (h3 : Sl w b1 zs) (h4 : Sl w b2 us)
    (n1 : xs.length ≤ 2 ^ 40) (n2 : ys.length ≤ 2 ^ 40) (n3 : zs.length ≤ 2 ^ 40) (n4 : us.length ≤ 2 ^ 40) (he : xs = zs ∧ ys = us ∧ v = v' ∧ k = k') :
    Calls Tryz.prog 98 #[.agg #[.slice a1 xs.length c1, .slice a2 ys.length c2, .int .i64 v, .int .i64 k], .agg #[.slice b1 zs.length d1, .slice b2 us.length d2, .int .i64 v', .int .i64 k']] w fun e w' => e = .returned (.bool true) ∧ Below w.heap.size w w' := by
  obtain ⟨rfl, rfl, rfl, rfl⟩ := he
  have H1 : Hid (Sl w a1 xs) := h1
  have H2 : Hid (Sl w a2 ys) := h2
  have H3 : Hid (Sl w b1 xs) := h3
  have H4 : Hid (Sl w b2 ys) := h4
  clear h1 h2 h3 h4
  obtain ⟨W, hW⟩ : ∃ W, W = (w.alloc (.cells #[.slice a1 xs.length c1, .slice a2 ys.length c2, .int .i64 v, .int .i64 k] 28)).alloc (.cells #[.slice b1 xs.length d1, .slice b2 ys.length d2, .int .i64 v, .int .i64 k] 28) := ⟨_, rfl⟩
  have hbW : Hid (Below w.heap.size w W) := by
    show Below _ _ _
    rw [hW]; exact ((Below.refl _ _).alloc (Nat.le_refl _) _).alloc (by simp) _
  have hsW : Hid (W.heap.size = w.heap.size + 2) := by show _ = _; rw [hW]; simp
  have g0 : Hid (W.heap[w.heap.size]? = some (.cells #[.slice a1 xs.length c1, .slice a2 ys.length c2, .int .i64 v, .int .i64 k] 28 (0, 0))) := by
    show _ = _
    rw [hW]; exact heap_new1 _ _ _
  have g1 : Hid (W.heap[w.heap.size + 1]? = some (.cells #[.slice b1 xs.length d1, .slice b2 ys.length d2, .int .i64 v, .int .i64 k] 28 (0, 0))) := by
    show _ = _
    rw [hW]; exact heap_new2 _ _ _
  have HW : Hid (W = _) := hW
  clear hW
  go_enter Tryz.func98, Tryz.ntmps98
  go_wp2_with fail
  rw [← HW.out]
  refine (eqReadS a1 b1 c1 d1 xs xs W (H1.out.below hbW.out) (H3.out.below hbW.out) n1 n1).mono ?_
  rintro e w1 ⟨rfl, b1'⟩
  rw [show (xs == xs) = true from by simp]
  have B1 : Hid (Below w.heap.size w w1) := hbW.out.trans (b1'.mono hbW.out.size)
  have C0 : Hid (∀ o, w1.cell? ⟨w.heap.size, o, none⟩ = W.cell? ⟨w.heap.size, o, none⟩) := fun o => b1'.cell (p := ⟨w.heap.size, o, none⟩) (by show w.heap.size < _; have := hsW.out; omega)
  have C1 : Hid (∀ o, w1.cell? ⟨w.heap.size + 1, o, none⟩ = W.cell? ⟨w.heap.size + 1, o, none⟩) := fun o => b1'.cell (p := ⟨w.heap.size + 1, o, none⟩) (by show w.heap.size + 1 < _; have := hsW.out; omega)
  have S1 : Hid (W.heap.size ≤ w1.heap.size) := b1'.size
  have q0 : w1.cell? ⟨w.heap.size, 1, none⟩ = some (.slice a2 ys.length c2) := by rw [C0.out, cell_heap g0.out]; rfl
  have q1 : w1.cell? ⟨w.heap.size + 1, 1, none⟩ = some (.slice b2 ys.length d2) := by rw [C1.out, cell_heap g1.out]; rfl
  clear b1'
  go_wp2_with fail
  refine (eqPutS a2 b2 c2 d2 ys ys w1 (H2.out.below B1.out) (H4.out.below B1.out) n2 n2).mono ?_
  rintro e w2 ⟨rfl, b2'⟩
  rw [show (ys == ys) = true from by simp]
  have B2 : Hid (Below w.heap.size w w2) := B1.out.trans (b2'.mono B1.out.size)
  have D0 : Hid (∀ o, w2.cell? ⟨w.heap.size, o, none⟩ = W.cell? ⟨w.heap.size, o, none⟩) := fun o => (b2'.cell (p := ⟨w.heap.size, o, none⟩) (by show w.heap.size < _; have := hsW.out; have := S1.out; omega)).trans (C0.out o)
  have D1 : Hid (∀ o, w2.cell? ⟨w.heap.size + 1, o, none⟩ = W.cell? ⟨w.heap.size + 1, o, none⟩) := fun o => (b2'.cell (p := ⟨w.heap.size + 1, o, none⟩) (by show w.heap.size + 1 < _; have := hsW.out; have := S1.out; omega)).trans (C1.out o)
  have p0 : w2.cell? ⟨w.heap.size, 2, none⟩ = some (.int .i64 v) := by rw [D0.out, cell_heap g0.out]; rfl
  have p1 : w2.cell? ⟨w.heap.size + 1, 2, none⟩ = some (.int .i64 v) := by rw [D1.out, cell_heap g1.out]; rfl
  have p2 : w2.cell? ⟨w.heap.size, 3, none⟩ = some (.int .i64 k) := by rw [D0.out, cell_heap g0.out]; rfl
  have p3 : w2.cell? ⟨w.heap.size + 1, 3, none⟩ = some (.int .i64 k) := by rw [D1.out, cell_heap g1.out]; rfl
  have ev : (v != v) = false := by simp
  have ek : (k != k) = false := by simp
  clear b2' q0 q1
  go_wp2
  go_ret
  exact ⟨rfl, B2.out⟩
end Go.Proofs.YtmcpefikmcaemaaGreatDoor.Own

namespace Go.Proofs.YtmcpefikmcaemaaGreatDoor.Own
open Go.RowKit
set_option linter.unusedVariables false
set_option linter.unusedSimpArgs false

set_option maxHeartbeats 1000000 in
theorem szRun (a1 a2 : Option Addr) (n1 c1 n2 c2 : Nat) (v k left : Int) (w : World) (h1 : n1 ≤ maxLen) (h2 : n2 ≤ maxLen) (h0 : 0 ≤ left) (hm : left ≤ 2 ^ 60) :
    Calls Tryz.prog 92 #[.agg #[.slice a1 n1 c1, .slice a2 n2 c2, .int .i64 v, .int .i64 k], .int .i64 left] w fun e w' => e = .returned (.int .i64 (if left - n1 - n2 < 0 then -1 else left - n1 - n2)) ∧ Below w.heap.size w w' := by
  have B0 : ∀ o, Hid (Below w.heap.size w (w.alloc o)) := fun o => (Below.refl _ _).alloc (Nat.le_refl _) _
  by_cases t : left - n1 < 0
  · rw [if_pos (by omega)]
    go_enter Tryz.func92, Tryz.ntmps92
    go_wp2_with fail
    refine (szReadS a1 n1 c1 left _ h1 h0 hm).mono ?_
    rintro e w1 ⟨rfl, rfl⟩
    rw [if_pos t]
    go_wp2_with fail
    go_ret
    exact ⟨rfl, (B0 _).out⟩
  · go_enter Tryz.func92, Tryz.ntmps92
    go_wp2_with fail
    refine (szReadS a1 n1 c1 left _ h1 h0 hm).mono ?_
    rintro e w1 ⟨rfl, rfl⟩
    rw [if_neg (by omega)]
    have t' : ¬ left - (n1 : Int) < 0 := by omega
    go_wp2_with fail
    refine (szPutS a2 n2 c2 (left - n1) _ h2 (by omega) (by omega)).mono ?_
    rintro e w1 ⟨rfl, rfl⟩
    by_cases t2 : left - n1 - n2 < 0
    · rw [if_pos t2]
      go_wp2_with fail
      go_ret
      exact ⟨rfl, (B0 _).out⟩
    · rw [if_neg t2]
      go_wp2_with fail
      go_ret
      exact ⟨rfl, (B0 _).out⟩

/-- The blocks from N on are as they were. -/
def KeepFrom (N : Nat) (w w' : World) : Prop := w'.heap.size = w.heap.size ∧ ∀ k, N ≤ k → w'.heap[k]? = w.heap[k]?
theorem KeepFrom.refl (N : Nat) (w : World) : KeepFrom N w w := ⟨rfl, fun _ _ => rfl⟩
theorem KeepFrom.setCell {N : Nat} {a w : World} (h : KeepFrom N a w) {p : Addr} (hp : p.block < N) (v : Value) : KeepFrom N a (w.setCell p v) :=
  ⟨by simpa [World.setCell] using h.1, fun k hk => by rw [Below.heap_setCell _ _ _ _ (by omega)]; exact h.2 k hk⟩
theorem BoxAt.block {w w' : World} {b off : Nat} {xs : List P2} (h : BoxAt w b off xs) (hs : w.heap.size ≤ w'.heap.size) (hb : w'.heap[b]? = w.heap[b]?) : BoxAt w' b off xs :=
  ⟨Nat.lt_of_lt_of_le h.1 hs, fun i hi => by
    rw [World.cell?_of_block (w := w) (a := ⟨b, off + i * 2, none⟩) hb, World.cell?_of_block (w := w) (a := ⟨b, off + i * 2 + 1, none⟩) hb]; exact h.2 i hi⟩
theorem RowR.block {w w' : World} {b n : Nat} (h : RowR w b n) (hb : w'.heap[b]? = w.heap[b]?) : RowR w' b n := by
  obtain ⟨C, h1, h2⟩ := h
  exact ⟨C, by rw [hb]; exact h1, h2⟩
theorem RowP.block {w w' : World} {b n : Nat} (h : RowP w b n) (hb : w'.heap[b]? = w.heap[b]?) : RowP w' b n := by
  obtain ⟨C, h1, h2⟩ := h
  exact ⟨C, by rw [hb]; exact h1, h2⟩

/-- A run in memory of its own: two rows. -/
def RunOwn (w : World) (B g1 g2 : Nat) (xs ys : List P2) : Prop := B ≤ g1 ∧ B ≤ g2 ∧ g1 ≠ g2 ∧ BoxAt w g1 0 xs ∧ BoxAt w g2 0 ys ∧ RowR w g1 xs.length ∧ RowP w g2 ys.length

theorem RunOwn.below {w w' : World} {B g1 g2 : Nat} {xs ys : List P2} (h : RunOwn w B g1 g2 xs ys) (hb : Below w.heap.size w w') : RunOwn w' B g1 g2 xs ys :=
  ⟨h.1, h.2.1, h.2.2.1, h.2.2.2.1.below hb, h.2.2.2.2.1.below hb, h.2.2.2.2.2.1.below hb h.2.2.2.1.1, h.2.2.2.2.2.2.below hb h.2.2.2.2.1.1⟩

theorem RunOwn.keep {w w' : World} {B N g1 g2 : Nat} {xs ys : List P2} (h : RunOwn w B g1 g2 xs ys) (hk : KeepFrom N w w') (h1 : N ≤ g1) (h2 : N ≤ g2) : RunOwn w' B g1 g2 xs ys :=
  ⟨h.1, h.2.1, h.2.2.1, h.2.2.2.1.block (Nat.le_of_eq hk.1.symm) (hk.2 _ h1), h.2.2.2.2.1.block (Nat.le_of_eq hk.1.symm) (hk.2 _ h2), h.2.2.2.2.2.1.block (hk.2 _ h1), h.2.2.2.2.2.2.block (hk.2 _ h2)⟩

set_option maxRecDepth 100000 in
set_option maxHeartbeats 1000000 in
theorem toRun (a1 a2 : Option Addr) (c1 c2 : Nat) (xs ys : List P2) (v k : Int) (w : World) (h1 : Sl w a1 xs) (h2 : Sl w a2 ys) (hn1 : xs.length ≤ 2 ^ 40) (hn2 : ys.length ≤ 2 ^ 40) :
    Calls Tryz.prog 95 #[.agg #[.slice a1 xs.length c1, .slice a2 ys.length c2, .int .i64 v, .int .i64 k]] w fun e w' => ∃ g1 g2, e = .returned (.agg #[.slice (some ⟨g1, 0, none⟩) xs.length xs.length, .slice (some ⟨g2, 0, none⟩) ys.length ys.length, .int .i64 v, .int .i64 k]) ∧ RunOwn w' w.heap.size g1 g2 xs ys ∧ Below w.heap.size w w' := by
  have H1 : Hid (Sl w a1 xs) := h1
  have H2 : Hid (Sl w a2 ys) := h2
  clear h1 h2
  obtain ⟨W, hW⟩ : ∃ W, W = ((w.alloc (.cells #[.slice a1 xs.length c1, .slice a2 ys.length c2, .int .i64 v, .int .i64 k] 45)).alloc (.cells #[.slice none 0 0, .slice none 0 0, .int .i64 0, .int .i64 0] 28)).alloc (.cells #[.slice none 0 0, .slice none 0 0, .int .i64 0, .int .i64 0] 28) := ⟨_, rfl⟩
  have hbW : Hid (Below w.heap.size w W) := by
    show Below _ _ _
    rw [hW]; exact (((Below.refl _ _).alloc (Nat.le_refl _) _).alloc (by simp) _).alloc (by simp; omega) _
  have hsW : Hid (W.heap.size = w.heap.size + 3) := by show _ = _; rw [hW]; simp
  have g0 : Hid (W.heap[w.heap.size]? = some (.cells #[.slice a1 xs.length c1, .slice a2 ys.length c2, .int .i64 v, .int .i64 k] 45 (0, 0))) := by
    show _ = _
    rw [hW, heap_old _ _ _ (by simp; omega), heap_old _ _ _ (by simp)]; exact heap_new _ _
  have g1 : Hid (W.heap[w.heap.size + 1]? = some (.cells #[.slice none 0 0, .slice none 0 0, .int .i64 0, .int .i64 0] 28 (0, 0))) := by
    show _ = _
    rw [hW, heap_old _ _ _ (by simp)]; exact heap_new2 _ _ _
  have g2 : Hid (W.heap[w.heap.size + 1 + 1]? = some (.cells #[.slice none 0 0, .slice none 0 0, .int .i64 0, .int .i64 0] 28 (0, 0))) := by
    show _ = _
    rw [hW]
    have := heap_new ((w.alloc (.cells #[.slice a1 xs.length c1, .slice a2 ys.length c2, .int .i64 v, .int .i64 k] 45)).alloc (.cells #[.slice none 0 0, .slice none 0 0, .int .i64 0, .int .i64 0] 28)) (.cells #[.slice none 0 0, .slice none 0 0, .int .i64 0, .int .i64 0] 28)
    rw [size_new, size_new] at this
    exact this
  have HW : Hid (W = _) := hW
  clear hW
  go_enter Tryz.func95, Tryz.ntmps95
  go_wp2_with fail
  rw [← HW.out]
  refine (toReadS a1 c1 xs W (H1.out.below hbW.out) hn1).mono ?_
  rintro e w1 ⟨rfl, at1, row1, b1⟩
  have z0 := b1.block w.heap.size (by have := hsW.out; omega)
  have z1 := b1.block (w.heap.size + 1) (by have := hsW.out; omega)
  have z2 := b1.block (w.heap.size + 1 + 1) (by have := hsW.out; omega)
  rw [g0.out] at z0
  rw [g1.out] at z1
  rw [g2.out] at z2
  have G0 : Hid (w1.heap[w.heap.size]? = _) := z0
  have G1 : Hid (w1.heap[w.heap.size + 1]? = _) := z1
  have G2 : Hid (w1.heap[w.heap.size + 1 + 1]? = _) := z2
  have A1 : Hid (BoxAt w1 W.heap.size 0 xs) := at1
  have R1 : Hid (RowR w1 W.heap.size xs.length) := row1
  have B1 : Hid (Below w.heap.size w w1) := hbW.out.trans (b1.mono (by have := hsW.out; omega))
  have S1 : Hid (W.heap.size < w1.heap.size) := at1.1
  clear at1 row1 b1 z0 z1 z2
  have q0 : w1.cell? ⟨w.heap.size + 1 + 1, 0, none⟩ = some (.slice none 0 0) := by rw [cell_heap G2.out]; rfl
  have f0 : w1.frozen? ⟨w.heap.size + 1 + 1, 0, none⟩ = false := frozen_heap G2.out _
  have q1 : w1.cell? ⟨w.heap.size, 1, none⟩ = some (.slice a2 ys.length c2) := by rw [cell_heap G0.out]; rfl
  go_wp2_with fail
  obtain ⟨W2, hW2⟩ : ∃ W2, W2 = w1.setCell ⟨w.heap.size + 1 + 1, 0, none⟩ (.slice (some ⟨W.heap.size, 0, none⟩) xs.length xs.length) := ⟨_, rfl⟩
  have K2 : Hid (KeepFrom (w.heap.size + 3) w1 W2) := by show KeepFrom _ _ _; rw [hW2]; exact (KeepFrom.refl _ _).setCell (by show w.heap.size + 1 + 1 < _; omega) _
  have B2 : Hid (Below w.heap.size w W2) := by show Below _ _ _; rw [hW2]; exact B1.out.setCell (by show w.heap.size ≤ w.heap.size + 1 + 1; omega) _
  have r0 : Hid (W2.cell? ⟨w.heap.size + 1 + 1, 0, none⟩ = some (.slice (some ⟨W.heap.size, 0, none⟩) xs.length xs.length)) := by show _ = _; rw [hW2]; exact setCell_cell_same _ _ _ _ _ q0
  have r1 : Hid (∀ o, o ≠ 0 → W2.cell? ⟨w.heap.size + 1 + 1, o, none⟩ = w1.cell? ⟨w.heap.size + 1 + 1, o, none⟩) := fun o ho => by rw [hW2]; exact setCell_cell_other _ _ _ _ _ (fun e => ho e.symm)
  have r2 : Hid (∀ b o, b ≠ w.heap.size + 1 + 1 → W2.cell? ⟨b, o, none⟩ = w1.cell? ⟨b, o, none⟩) := fun b o hb => by rw [hW2]; exact World.cell?_setCell_other _ _ _ _ (by intro e; injection e with e1; exact hb e1.symm)
  have r3 : Hid (∀ b o, W2.frozen? ⟨b, o, none⟩ = w1.frozen? ⟨b, o, none⟩) := fun b o => by rw [hW2]; simp
  have HW2 : Hid (W2 = _) := hW2
  rw [← HW2.out]
  clear hW2 q0 f0 q1
  refine (toPutS a2 c2 ys W2 (H2.out.below B2.out) hn2).mono ?_
  rintro e w2 ⟨rfl, at2, row2, b2⟩
  have S2 : Hid (W2.heap.size = w1.heap.size) := K2.out.1
  have cc : ∀ b o, b < W.heap.size → w2.cell? ⟨b, o, none⟩ = W2.cell? ⟨b, o, none⟩ := fun b o hb => b2.cell (p := ⟨b, o, none⟩) (by have := S2.out; have := S1.out; show b < _; omega)
  have ff : ∀ b o, b < W.heap.size → w2.frozen? ⟨b, o, none⟩ = W2.frozen? ⟨b, o, none⟩ := fun b o hb => b2.frozen (p := ⟨b, o, none⟩) (by have := S2.out; have := S1.out; show b < _; omega)
  have hs := hsW.out
  have p2 : w2.cell? ⟨w.heap.size, 2, none⟩ = some (.int .i64 v) := by rw [cc _ _ (by omega), r2.out _ _ (by omega), cell_heap G0.out]; rfl
  have p3 : w2.cell? ⟨w.heap.size, 3, none⟩ = some (.int .i64 k) := by rw [cc _ _ (by omega), r2.out _ _ (by omega), cell_heap G0.out]; rfl
  have o0 : w2.cell? ⟨w.heap.size + 1 + 1, 0, none⟩ = some (.slice (some ⟨W.heap.size, 0, none⟩) xs.length xs.length) := by rw [cc _ _ (by omega)]; exact r0.out
  have o1 : w2.cell? ⟨w.heap.size + 1 + 1, 1, none⟩ = some (.slice none 0 0) := by rw [cc _ _ (by omega), r1.out _ (by omega), cell_heap G2.out]; rfl
  have o2 : w2.cell? ⟨w.heap.size + 1 + 1, 2, none⟩ = some (.int .i64 0) := by rw [cc _ _ (by omega), r1.out _ (by omega), cell_heap G2.out]; rfl
  have o3 : w2.cell? ⟨w.heap.size + 1 + 1, 3, none⟩ = some (.int .i64 0) := by rw [cc _ _ (by omega), r1.out _ (by omega), cell_heap G2.out]; rfl
  have i0 : w2.cell? ⟨w.heap.size + 1, 0, none⟩ = some (.slice none 0 0) := by rw [cc _ _ (by omega), r2.out _ _ (by omega), cell_heap G1.out]; rfl
  have i1 : w2.cell? ⟨w.heap.size + 1, 1, none⟩ = some (.slice none 0 0) := by rw [cc _ _ (by omega), r2.out _ _ (by omega), cell_heap G1.out]; rfl
  have i2 : w2.cell? ⟨w.heap.size + 1, 2, none⟩ = some (.int .i64 0) := by rw [cc _ _ (by omega), r2.out _ _ (by omega), cell_heap G1.out]; rfl
  have i3 : w2.cell? ⟨w.heap.size + 1, 3, none⟩ = some (.int .i64 0) := by rw [cc _ _ (by omega), r2.out _ _ (by omega), cell_heap G1.out]; rfl
  have fo : ∀ o, w2.frozen? ⟨w.heap.size + 1 + 1, o, none⟩ = false := fun o => by rw [ff _ _ (by omega), r3.out]; exact frozen_heap G2.out _
  have fi : ∀ o, w2.frozen? ⟨w.heap.size + 1, o, none⟩ = false := fun o => by rw [ff _ _ (by omega), r3.out]; exact frozen_heap G1.out _
  have AT : Hid (RunOwn w2 w.heap.size W.heap.size W2.heap.size xs ys) := by
    have e1 := (b2.block W.heap.size (by have := S2.out; have := S1.out; omega)).trans (K2.out.2 W.heap.size (by omega))
    exact ⟨by omega, by have := S2.out; have := S1.out; omega, by have := S2.out; have := S1.out; omega, A1.out.block (by have := S2.out; have := b2.size; omega) e1, at2, R1.out.block e1, row2⟩
  have B3 : Hid (Below w.heap.size w w2) := B2.out.trans (b2.mono B2.out.size)
  have SN : Hid (w.heap.size + 3 ≤ W.heap.size ∧ w.heap.size + 3 ≤ W2.heap.size) := ⟨by omega, by have := S2.out; have := S1.out; omega⟩
  clear at2 row2 b2 cc ff hs
  go_wp2
  refine bodyPost_ret (v := .agg #[.slice (some ⟨W.heap.size, 0, none⟩) xs.length xs.length, .slice (some ⟨W2.heap.size, 0, none⟩) ys.length ys.length, .int .i64 v, .int .i64 k]) (by simp [results, Tryz.results95, go_sem, i0, i1, i2, i3]) rfl ⟨W.heap.size, W2.heap.size, rfl, ?_, ?_⟩
  · have KK : KeepFrom (w.heap.size + 3) w2 _ := (((((((KeepFrom.refl (w.heap.size + 3) w2).setCell (p := ⟨w.heap.size + 1 + 1, 1, none⟩) (by show w.heap.size + 1 + 1 < _; omega) (.slice (some ⟨W2.heap.size, 0, none⟩) ys.length ys.length)).setCell (p := ⟨w.heap.size + 1 + 1, 2, none⟩) (by show w.heap.size + 1 + 1 < _; omega) (.int .i64 v)).setCell (p := ⟨w.heap.size + 1 + 1, 3, none⟩) (by show w.heap.size + 1 + 1 < _; omega) (.int .i64 k)).setCell (p := ⟨w.heap.size + 1, 0, none⟩) (by show w.heap.size + 1 < _; omega) (.slice (some ⟨W.heap.size, 0, none⟩) xs.length xs.length)).setCell (p := ⟨w.heap.size + 1, 1, none⟩) (by show w.heap.size + 1 < _; omega) (.slice (some ⟨W2.heap.size, 0, none⟩) ys.length ys.length)).setCell (p := ⟨w.heap.size + 1, 2, none⟩) (by show w.heap.size + 1 < _; omega) (.int .i64 v)).setCell (p := ⟨w.heap.size + 1, 3, none⟩) (by show w.heap.size + 1 < _; omega) (.int .i64 k)
    exact AT.out.keep KK SN.out.1 SN.out.2
  · exact ((((((B3.out.setCell (by show w.heap.size ≤ w.heap.size + 1 + 1; omega) _).setCell (by show w.heap.size ≤ w.heap.size + 1 + 1; omega) _).setCell (by show w.heap.size ≤ w.heap.size + 1 + 1; omega) _).setCell (by show w.heap.size ≤ w.heap.size + 1; omega) _).setCell (by show w.heap.size ≤ w.heap.size + 1; omega) _).setCell (by show w.heap.size ≤ w.heap.size + 1; omega) _).setCell (by show w.heap.size ≤ w.heap.size + 1; omega) _

end Go.Proofs.YtmcpefikmcaemaaGreatDoor.Own
