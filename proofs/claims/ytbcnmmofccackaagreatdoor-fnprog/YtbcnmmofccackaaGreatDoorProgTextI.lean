/-
  Own text: what impl.ProgText does.
-/
import Derived.Test.YtbcnmmofccackaaGreatDoorTextI2
namespace Go.Proofs.YtbcnmmofccackaaGreatDoor.Own
open Go.RowKit
set_option linter.unusedVariables false
set_option linter.unusedSimpArgs false

theorem cells_comma (l : List UInt8) : Lib.byteCells l ++ [Value.int .u8 44] = Lib.byteCells (l ++ [44]) := by
  rw [Lib.byteCells_append]; rfl

set_option maxHeartbeats 4000000 in
theorem implProgText (a : Option Addr) (c : Nat) (xs : List Q4) (w : World) (h : Sl4 w a xs) (hn : xs.length ≤ 2 ^ 30) (hw : Wf4 xs) (ht : Tab w) :
    Calls Tryz.prog 5 #[.slice a xs.length c] w fun e w' => e = .returned (.string (str (progTo xs xs.length))) ∧ Below w.heap.size w w' := by
  have H1 : Hid (Sl4 w a xs) := h
  have HW : Hid (Wf4 xs) := hw
  have HT : Hid (Tab w) := ht
  clear h hw ht
  go_enter Tryz.func5, Tryz.ntmps5
  go_wp2
  go_loopw [8] (fun i wr => ∃ k : Nat, k ≤ xs.length ∧ i = .int .i64 k ∧ Lib.IsBuilder 39 5 w.heap.size w.heap.size (Lib.byteCells (progTo xs k)) wr ∧ Below w.heap.size w wr) (fun i _ => xs.length - (intOf i).toNat)
  case atStart => exact ⟨0, Nat.zero_le _, rfl, Lib.fresh_isBuilder _ _ _, (Below.refl _ _).alloc (Nat.le_refl _) _⟩
  case round =>
    obtain ⟨k, hk, rfl, hbd, hB⟩ := hrel
    have HBd : Hid (Lib.IsBuilder 39 5 w.heap.size w.heap.size (Lib.byteCells (progTo xs k)) wr) := hbd
    have HB : Hid (Below w.heap.size w wr) := hB
    have htl : Hid ((progTo xs k).length ≤ 71 * k) := progTo_len xs HW.out k hk
    clear hbd hB
    by_cases hlt : k < xs.length
    · rcases H1.out with h | ⟨b1, o1, rfl, h1⟩
      · subst h; simp at hlt
      have H1' : Hid (At4 w b1 o1 xs) := h1
      clear h1
      obtain ⟨p, hp⟩ : ∃ p, p = xs.getD k q0 := ⟨_, rfl⟩
      obtain ⟨ca, cb, cc, cd⟩ := H1'.out.2 k hlt
      rw [← HB.out.cell H1'.out.1, ← hp] at ca cb cc cd
      have hf : Hid (FitsQ p) := by rw [hp]; exact HW.out k hlt
      have HP : Hid (p = xs.getD k q0) := hp
      clear hp
      obtain ⟨p1, p2, p3, p4⟩ := p
      obtain ⟨X, hX⟩ : ∃ X, X = wr.alloc (.cells #[.int .i64 p1, .int .i64 p2, .int .i64 p3, .int .i64 p4] 41) := ⟨_, rfl⟩
      have hXb : Hid (Below wr.heap.size wr X) := by show Below _ _ _; rw [hX]; exact (Below.refl _ _).alloc (Nat.le_refl _) _
      have hX0 : Hid (X.heap[wr.heap.size]? = some (.cells #[.int .i64 p1, .int .i64 p2, .int .i64 p3, .int .i64 p4] 41)) := by show _ = _; rw [hX]; exact heap_new _ _
      have HX : Hid (X = wr.alloc (.cells #[.int .i64 p1, .int .i64 p2, .int .i64 p3, .int .i64 p4] 41)) := hX
      have XB : Hid (Below w.heap.size w X) := HB.out.trans (hXb.out.mono HB.out.size)
      have XBd : Hid (Lib.IsBuilder 39 5 w.heap.size w.heap.size (Lib.byteCells (progTo xs k)) X) := isBuilder_keep HBd.out hXb.out
      have hwr : Hid (w.heap.size < wr.heap.size) := by
        rcases HBd.out with h | h
        · exact h.lt
        · exact h.lt
      clear hX
      have hlen : Hid ((Lib.byteCells (progTo xs k)).length + 1 ≤ 140737488355328) := by
        show _ ≤ _
        rw [Lib.byteCells_length]
        have := htl.out; omega
      by_cases h0 : k = 0
      · have H0 : Hid (k = 0) := h0
        have hz : (k : Int) ≤ 0 := by omega
        clear h0
        go_wp2_with fail
        rw [← HX.out]
        refine (insTextC (p1, p2, p3, p4) X hf.out (tab_below HT.out HT.out XB.out (Nat.le_refl _))).mono ?_
        rintro e w2 ⟨rfl, b2⟩
        have B2 : Hid (Below w.heap.size w w2) := XB.out.trans (b2.mono XB.out.size)
        have D2 : Hid (Lib.IsBuilder 39 5 w.heap.size w.heap.size (Lib.byteCells (progTo xs k)) w2) := isBuilder_keep XBd.out b2
        obtain ⟨s, hs⟩ : ∃ s, s = str (insText (p1, p2, p3, p4)) := ⟨_, rfl⟩
        have HS : Hid (s = str (insText (p1, p2, p3, p4))) := hs
        have hsz : Hid (s.size ≤ 70) := by show _ ≤ _; rw [hs, str_size]; exact insText_len _ hf.out
        rw [← hs]
        clear b2 hs
        go_wp2_with fail
        refine (writeString w.heap.size w.heap.size _ s w2 D2.out (by have := hsz.out; have := htl.out; simp only [List.length_append, List.length_singleton, Lib.byteCells_length]; omega) B2.out.size).mono ?_
        rintro e w3 ⟨rfl, d3, b3, _⟩
        have B3 : Hid (Below w.heap.size w w3) := B2.out.trans b3
        have D3 : Hid (Lib.IsBuilder 39 5 w.heap.size w.heap.size (Lib.byteCells (progTo xs (k + 1))) w3) := by
          show Lib.IsBuilder _ _ _ _ _ _
          rw [HS.out, cells_snoc, HP.out, ← progTo_first xs k H0.out] at d3
          exact .inr d3
        clear d3 b3
        go_wp2
        go_roundw
        case rel => exact ⟨k + 1, by omega, by go_num, D3.out, B3.out⟩
        case measure => simp [intOf]; omega
      · have H0 : Hid (k ≠ 0) := h0
        have hz : (0 : Int) < (k : Int) := by omega
        clear h0
        go_wp2_with fail
        rw [← HX.out]
        refine (writeByte w.heap.size w.heap.size _ 44 X XBd.out hlen.out XB.out.size).mono ?_
        rintro e w1 ⟨rfl, d1, b1, k1⟩
        have B1 : Hid (Below w.heap.size w w1) := XB.out.trans b1
        have D1 : Hid (Lib.IsBuilder 39 5 w.heap.size w.heap.size (Lib.byteCells (progTo xs k) ++ [.int .u8 44]) w1) := .inr d1
        have e1 : w1.heap[wr.heap.size]? = some (.cells #[.int .i64 p1, .int .i64 p2, .int .i64 p3, .int .i64 p4] 41) := k1 _ _ hX0.out (by have := hwr.out; intro e; injection e with e; omega) (by intro c fz; simp)
        have l0 : w1.cell? ⟨wr.heap.size, 0, none⟩ = some (.int .i64 p1) := by rw [cell_heap e1]; rfl
        have l1 : w1.cell? ⟨wr.heap.size, 1, none⟩ = some (.int .i64 p2) := by rw [cell_heap e1]; rfl
        have l2 : w1.cell? ⟨wr.heap.size, 2, none⟩ = some (.int .i64 p3) := by rw [cell_heap e1]; rfl
        have l3 : w1.cell? ⟨wr.heap.size, 3, none⟩ = some (.int .i64 p4) := by rw [cell_heap e1]; rfl
        clear d1 b1 k1 e1
        go_wp2_with fail
        refine (insTextC (p1, p2, p3, p4) w1 hf.out (tab_below HT.out HT.out B1.out (Nat.le_refl _))).mono ?_
        rintro e w2 ⟨rfl, b2⟩
        have B2 : Hid (Below w.heap.size w w2) := B1.out.trans (b2.mono B1.out.size)
        have D2 : Hid (Lib.IsBuilder 39 5 w.heap.size w.heap.size (Lib.byteCells (progTo xs k) ++ [.int .u8 44]) w2) := isBuilder_keep D1.out b2
        obtain ⟨s, hs⟩ : ∃ s, s = str (insText (p1, p2, p3, p4)) := ⟨_, rfl⟩
        have HS : Hid (s = str (insText (p1, p2, p3, p4))) := hs
        have hsz : Hid (s.size ≤ 70) := by show _ ≤ _; rw [hs, str_size]; exact insText_len _ hf.out
        rw [← hs]
        clear b2 hs
        go_wp2_with fail
        refine (writeString w.heap.size w.heap.size _ s w2 D2.out (by have := hsz.out; have := htl.out; simp only [List.length_append, List.length_singleton, Lib.byteCells_length]; omega) B2.out.size).mono ?_
        rintro e w3 ⟨rfl, d3, b3, _⟩
        have B3 : Hid (Below w.heap.size w w3) := B2.out.trans b3
        have D3 : Hid (Lib.IsBuilder 39 5 w.heap.size w.heap.size (Lib.byteCells (progTo xs (k + 1))) w3) := by
          show Lib.IsBuilder _ _ _ _ _ _
          rw [HS.out, cells_comma, cells_snoc, HP.out, ← progTo_next xs k H0.out] at d3
          exact .inr d3
        clear d3 b3
        go_wp2
        go_roundw
        case rel => exact ⟨k + 1, by omega, by go_num, D3.out, B3.out⟩
        case measure => simp [intOf]; omega
    · go_wp2_with fail
      refine (Tryz.Builder_String_any w.heap.size w.heap.size (progTo xs k) wr HBd.out HB.out.size).mono ?_
      rintro e w1 ⟨rfl, hb⟩
      have HB1 : Hid (Below w.heap.size w w1) := HB.out.trans hb
      clear hb
      go_wp2
      go_ret
      have : k = xs.length := by omega
      subst this
      exact ⟨rfl, HB1.out⟩
end Go.Proofs.YtbcnmmofccackaaGreatDoor.Own
