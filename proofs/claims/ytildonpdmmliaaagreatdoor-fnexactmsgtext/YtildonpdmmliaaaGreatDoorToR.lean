/-
  Own text, by program out of To.lean: the same over []Read.
-/
import Derived.Test.YtildonpdmmliaaaGreatDoorMem
import Derived.Test.YtildonpdmmliaaaGreatDoorBase
namespace Go.Proofs.YtildonpdmmliaaaGreatDoor.Own
open Go.RowKit

theorem infoRead : (Tryz.prog.info? 81).map (fun i => (i.zero, i.size, i.bytes)) = some (some (.agg #[.int .i64 0, .int .i64 0]), 2, 16) := by kernel_rfl

set_option maxHeartbeats 400000 in
theorem szReadS (a : Option Addr) (n c : Nat) (left : Int) (w : World) (hn : n ≤ maxLen) (h0 : 0 ≤ left) (h1 : left ≤ 2 ^ 60) :
    Calls Tryz.prog 41 #[.slice a n c, .int .i64 left] w fun e w' => e = .returned (.int .i64 (if left - n < 0 then -1 else left - n)) ∧ w' = w := by
  unfold maxLen at hn
  go_enter Tryz.func41, Tryz.ntmps41
  go_wp2
  all_goals
    go_ret
    exact ⟨rfl, rfl⟩

set_option maxHeartbeats 400000 in
theorem toRead (a b : Int) (w : World) : Calls Tryz.prog 62 #[.agg #[.int .i64 a, .int .i64 b]] w fun e w' => e = .returned (.agg #[.int .i64 a, .int .i64 b]) ∧ Below w.heap.size w w' := by
  go_enter Tryz.func62, Tryz.ntmps62
  go_wp2
  refine bodyPost_ret (v := .agg #[.int .i64 a, .int .i64 b]) (by simp [results, Tryz.results62, go_sem]) rfl ⟨rfl, ?_⟩
  exact ((((Below.refl _ _).alloc (Nat.le_refl _) _).alloc (by simp) _).alloc (by simp; omega) _)

/-- A row of n boxes of one's own. -/
def RowR (w : World) (b n : Nat) : Prop := ∃ C, w.heap[b]? = some (.cells C 81 (0, 0)) ∧ C.size = n * 2 ∧ ∀ v ∈ C, v.oneCell' = true

theorem RowR.setCell {w : World} {b n : Nat} (h : RowR w b n) (o : Nat) (v : Value) (hv : v.oneCell' = true) : RowR (w.setCell ⟨b, o, none⟩ v) b n := by
  obtain ⟨C, h1, h2, h3⟩ := h
  refine ⟨C.setIfInBounds o v, ?_, by simpa using h2, ?_⟩
  · simp [World.setCell, Array.getElem?_modify, h1]
  · intro u hu
    rcases Array.mem_or_eq_of_mem_setIfInBounds hu with h | h
    · exact h3 u h
    · rw [h]; exact hv

theorem RowR.cell {w : World} {b n : Nat} (h : RowR w b n) (o : Nat) (ho : o < n * 2) : ∃ v, w.cell? ⟨b, o, none⟩ = some v ∧ v.oneCell' = true := by
  obtain ⟨C, h1, h2, h3⟩ := h
  rw [cell_heap h1]
  exact ⟨C[o]'(by omega), by simp, h3 _ (by simp)⟩

theorem RowR.frozen {w : World} {b n : Nat} (h : RowR w b n) (o : Nat) : w.frozen? ⟨b, o, none⟩ = false := by
  obtain ⟨C, h1, _⟩ := h
  exact frozen_heap h1 o

theorem RowR.lt {w : World} {b n : Nat} (h : RowR w b n) : b < w.heap.size := by
  obtain ⟨C, h1, _⟩ := h
  exact (Array.getElem?_eq_some_iff.1 h1).1

theorem RowR.below {w w' : World} {b n B : Nat} (h : RowR w b n) (hb : Below B w w') (hB : b < B) : RowR w' b n := by
  obtain ⟨C, h1, h2⟩ := h
  exact ⟨C, by rw [hb.block _ hB]; exact h1, h2⟩

theorem RowR.made (w : World) (n : Nat) : RowR (w.alloc (.cells (madeCells (Value.agg #[.int .i64 0, .int .i64 0]).cells (n * 2)) 81)) w.heap.size n := by
  refine ⟨_, heap_new _ _, size_madeCells _ _, ?_⟩
  intro v hv
  obtain ⟨k, hk, rfl⟩ := Array.getElem_of_mem hv
  rw [size_madeCells] at hk
  obtain ⟨v, h1, h2⟩ := made_cell (z := (Value.agg #[.int .i64 0, .int .i64 0]).cells) (n := n * 2) (k := k) (by decide) hk (by simp [Value.cells, Value.oneCell'])
  rw [Array.getElem?_eq_getElem (by simpa [size_madeCells] using hk)] at h1
  injection h1 with h1
  rw [h1]; exact h2

set_option maxHeartbeats 1000000 in
theorem toReadS (a : Option Addr) (c : Nat) (xs : List (Int × Int)) (w : World) (h : Sl w a xs) (hn : xs.length ≤ 2 ^ 40) :
    Calls Tryz.prog 47 #[.slice a xs.length c] w fun e w' => e = .returned (.slice (some ⟨w.heap.size, 0, none⟩) xs.length xs.length) ∧ BoxAt w' w.heap.size 0 xs ∧ RowR w' w.heap.size xs.length ∧ Below w.heap.size w w' := by
  have H1 : Hid (Sl w a xs) := h
  clear h
  have hmk := make_row (P := Tryz.prog) Tryz.underlying36 infoRead xs.length (by omega) (by omega)
  go_enter Tryz.func47, Tryz.ntmps47
  go_wp2
  clear hmk
  go_loopw [4] (fun i wr => ∃ k : Nat, k ≤ xs.length ∧ i = .int .i64 k ∧ BoxAt wr w.heap.size 0 (xs.take k) ∧ RowR wr w.heap.size xs.length ∧ Below w.heap.size w wr) (fun i _ => xs.length - (intOf i).toNat)
  case atStart => exact ⟨0, Nat.zero_le _, rfl, ⟨by simp, by simp⟩, RowR.made w _, (Below.refl _ _).alloc (Nat.le_refl _) _⟩
  case round =>
    obtain ⟨k, hk, rfl, hat, hrow, hB⟩ := hrel
    by_cases hlt : k < xs.length
    · rcases H1.out with h | ⟨b1, o1, rfl, h1⟩
      · subst h; simp at hlt
      have H1' : Hid (BoxAt w b1 o1 xs) := h1
      clear h1
      obtain ⟨p, hp⟩ : ∃ p, p = xs.getD k (0, 0) := ⟨_, rfl⟩
      have ca := (H1'.out.2 k hlt).1
      have cb := (H1'.out.2 k hlt).2
      rw [← hB.cell H1'.out.1, ← hp] at ca cb
      have HP : Hid (p = xs.getD k (0, 0)) := hp
      have HA : Hid (BoxAt wr w.heap.size 0 (xs.take k)) := hat
      have HR : Hid (RowR wr w.heap.size xs.length) := hrow
      clear hp hat hrow
      obtain ⟨p1, p2⟩ := p
      go_wp2_with fail
      refine (toRead p1 p2 _).mono ?_
      rintro e w1 ⟨rfl, hb1⟩
      have R1 := HR.out.below hb1 HR.out.lt
      have HR1 : Hid (RowR w1 w.heap.size xs.length) := R1
      obtain ⟨v1, c1, _⟩ := R1.cell (k * 2) (by omega)
      obtain ⟨v2, c2, _⟩ := R1.cell (k * 2 + 1) (by omega)
      have f1 := R1.frozen (k * 2)
      have f2 := R1.frozen (k * 2 + 1)
      have HA1 : Hid (BoxAt w1 w.heap.size 0 (xs.take k)) := HA.out.below hb1
      have HB1 : Hid (Below w.heap.size w w1) := hB.trans (hb1.mono hB.size)
      clear R1 hb1 ca cb
      go_wp2
      go_roundw
      case rel =>
        refine ⟨k + 1, by omega, by go_num, ?_, (HR1.out.setCell _ _ rfl).setCell _ _ rfl, (HB1.out.setCell (Nat.le_refl _) _).setCell (Nat.le_refl _) _⟩
        refine ⟨by simpa [World.setCell] using HR1.out.lt, fun i hi => ?_⟩
        have hi' : i < k + 1 := by simp at hi; omega
        rw [Nat.zero_add]
        by_cases e : i = k
        · subst e
          have e2 : (xs.take (i + 1)).getD i (0, 0) = (p1, p2) := by
            rw [HP.out]; simp [List.getD]
          rw [e2]
          exact ⟨by rw [setCell_cell_other _ _ _ _ _ (by omega)]; exact setCell_cell_same _ _ _ _ _ c1, setCell_cell_same _ _ _ _ v2 (by rw [setCell_cell_other _ _ _ _ _ (by omega)]; exact c2)⟩
        · have := HA1.out.2 i (by simp; omega)
          rw [Nat.zero_add] at this
          have e2 : (xs.take (k + 1)).getD i (0, 0) = (xs.take k).getD i (0, 0) := by
            simp [List.getD, show i < k by omega, show i < k + 1 by omega]
          rw [e2, setCell_cell_other _ _ _ _ _ (by omega), setCell_cell_other _ _ _ _ _ (by omega), setCell_cell_other _ _ _ _ _ (by omega), setCell_cell_other _ _ _ _ _ (by omega)]
          exact this
      case measure => simp [intOf]; omega
    · go_wp2
      go_ret
      have : k = xs.length := by omega
      subst this
      refine ⟨rfl, ?_, hrow, hB⟩
      rw [List.take_length] at hat
      exact hat
end Go.Proofs.YtildonpdmmliaaaGreatDoor.Own
