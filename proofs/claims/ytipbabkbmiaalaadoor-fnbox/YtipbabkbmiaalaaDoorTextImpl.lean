/-
  Own text: what impl.BoxText does.
-/
import Derived.Test.YtipbabkbmiaalaaDoorText
namespace Go.Proofs.YtipbabkbmiaalaaDoor.Own
open Go.RowKit
set_option linter.unusedVariables false
set_option linter.unusedSimpArgs false

theorem ownsRow_keep {w w' : World} {B e s n : Nat} {v : Value} {xs : List Value} (h : w.ownsRow B e s v n xs) (hb : Below w.heap.size w w') : w'.ownsRow B e s v n xs := by
  obtain ⟨h1, h2⟩ := h
  refine ⟨h1, ?_⟩
  rcases h2 with h2 | ⟨g, cap, cur, hv, hg, hh, r⟩
  · exact .inl h2
  · exact .inr ⟨g, cap, cur, hv, hg, by rw [hb.block g (Array.getElem?_eq_some_iff.1 hh).1]; exact hh, r⟩

theorem builderAt_keep {T e : TypeId} {B b : Nat} {p : Value} {bs : List Value} {w w' : World} (h : Lib.BuilderAt T e B b p bs w) (hb : Below w.heap.size w w') : Lib.BuilderAt T e B b p bs w' := by
  have hlt := h.lt
  obtain ⟨hB, v, hh, hown, hne⟩ := h
  exact ⟨hB, v, by rw [hb.block b hlt]; exact hh, ownsRow_keep hown hb, hne⟩

theorem isBuilder_keep {T e : TypeId} {B b : Nat} {bs : List Value} {w w' : World} (h : Lib.IsBuilder T e B b bs w) (hb : Below w.heap.size w w') : Lib.IsBuilder T e B b bs w' :=
  h.elim (fun x => .inl (builderAt_keep x hb)) (fun x => .inr (builderAt_keep x hb))

theorem cells_snoc (l m : List UInt8) : Lib.byteCells l ++ Lib.strCells (str m) = Lib.byteCells (l ++ m) := by
  rw [Lib.byteCells_append]; simp [Lib.strCells, Lib.byteCells, str_list]

theorem textTo_first (xs : List (Int × Int)) : textTo xs (0 + 1) = textTo xs 0 ++ boxText1 (xs.getD 0 (0, 0)) := by simp [textTo]
theorem textTo_next (xs : List (Int × Int)) (k : Nat) (h : k ≠ 0) : textTo xs (k + 1) = (textTo xs k ++ [32]) ++ boxText1 (xs.getD k (0, 0)) := by simp [textTo, h]

theorem textTo_step0 (xs : List (Int × Int)) (k : Nat) (h : k = 0) : textTo xs (k + 1) = textTo xs k ++ boxText1 (xs.getD k (0, 0)) := by subst h; exact textTo_first xs
theorem cells_space (l : List UInt8) : Lib.byteCells l ++ [Value.int .u8 32] = Lib.byteCells (l ++ [32]) := by
  rw [Lib.byteCells_append]; rfl

set_option maxHeartbeats 4000000 in
theorem implText (a : Option Addr) (c : Nat) (xs : List (Int × Int)) (w : World) (h : Sl w a xs) (hn : xs.length ≤ 2 ^ 30) (hw : Wf xs) (ht : Tab w) :
    Calls Tryd.prog 8 #[.slice a xs.length c] w fun e w' => e = .returned (.string (str (textTo xs xs.length))) ∧ Below w.heap.size w w' := by
  have H1 : Hid (Sl w a xs) := h
  have HW : Hid (Wf xs) := hw
  have HT : Hid (Tab w) := ht
  clear h hw ht
  go_enter Tryd.func8, Tryd.ntmps8
  go_wp2
  go_loopw [8] (fun i wr => ∃ k : Nat, k ≤ xs.length ∧ i = .int .i64 k ∧ Lib.IsBuilder 46 5 w.heap.size w.heap.size (Lib.byteCells (textTo xs k)) wr ∧ Below w.heap.size w wr) (fun i _ => xs.length - (intOf i).toNat)
  case atStart => exact ⟨0, Nat.zero_le _, rfl, Lib.fresh_isBuilder _ _ _, (Below.refl _ _).alloc (Nat.le_refl _) _⟩
  case round =>
    obtain ⟨k, hk, rfl, hbd, hB⟩ := hrel
    have HBd : Hid (Lib.IsBuilder 46 5 w.heap.size w.heap.size (Lib.byteCells (textTo xs k)) wr) := hbd
    have HB : Hid (Below w.heap.size w wr) := hB
    have htl : Hid ((textTo xs k).length ≤ 44 * k) := textTo_len xs HW.out k hk
    clear hbd hB
    by_cases hlt : k < xs.length
    · rcases H1.out with h | ⟨b1, o1, rfl, h1⟩
      · subst h; simp at hlt
      have H1' : Hid (BoxAt w b1 o1 xs) := h1
      clear h1
      obtain ⟨p, hp⟩ : ∃ p, p = xs.getD k (0, 0) := ⟨_, rfl⟩
      have ca := (H1'.out.2 k hlt).1
      have cb := (H1'.out.2 k hlt).2
      rw [← HB.out.cell H1'.out.1, ← hp] at ca cb
      have hf : Hid (Fits p.1 ∧ Fits p.2) := by rw [hp]; exact HW.out k hlt
      have HP : Hid (p = xs.getD k (0, 0)) := hp
      clear hp
      obtain ⟨p1, p2⟩ := p
      obtain ⟨X, hX⟩ : ∃ X, X = wr.alloc (.cells #[.int .i64 p1, .int .i64 p2] 48) := ⟨_, rfl⟩
      have hXb : Hid (Below wr.heap.size wr X) := by show Below _ _ _; rw [hX]; exact (Below.refl _ _).alloc (Nat.le_refl _) _
      have hX0 : Hid (X.heap[wr.heap.size]? = some (.cells #[.int .i64 p1, .int .i64 p2] 48)) := by show _ = _; rw [hX]; exact heap_new _ _
      have HX : Hid (X = wr.alloc (.cells #[.int .i64 p1, .int .i64 p2] 48)) := hX
      have XB : Hid (Below w.heap.size w X) := HB.out.trans (hXb.out.mono HB.out.size)
      have XBd : Hid (Lib.IsBuilder 46 5 w.heap.size w.heap.size (Lib.byteCells (textTo xs k)) X) := isBuilder_keep HBd.out hXb.out
      have hwr : Hid (w.heap.size < wr.heap.size) := by
        rcases HBd.out with h | h
        · exact h.lt
        · exact h.lt
      clear hX
      have hlen : Hid ((Lib.byteCells (textTo xs k)).length + 1 ≤ 140737488355328) := by
        show _ ≤ _
        rw [Lib.byteCells_length]
        have := htl.out; omega
      by_cases h0 : k = 0
      · have H0 : Hid (k = 0) := h0
        have hz : (k : Int) ≤ 0 := by omega
        clear h0
        go_wp2_with fail
        rw [← HX.out]
        refine (implText1 p1 p2 X hf.out.1 hf.out.2 (tab_below HT.out HT.out XB.out (Nat.le_refl _))).mono ?_
        rintro e w2 ⟨rfl, b2⟩
        have B2 : Hid (Below w.heap.size w w2) := XB.out.trans (b2.mono XB.out.size)
        have D2 : Hid (Lib.IsBuilder 46 5 w.heap.size w.heap.size (Lib.byteCells (textTo xs k)) w2) := isBuilder_keep XBd.out b2
        obtain ⟨s, hs⟩ : ∃ s, s = str (boxText1 (p1, p2)) := ⟨_, rfl⟩
        have HS : Hid (s = str (boxText1 (p1, p2))) := hs
        have hsz : Hid (s.size ≤ 43) := by show _ ≤ _; rw [hs, str_size]; exact text1_len _ hf.out.1 hf.out.2
        rw [← hs]
        clear b2 hs
        go_wp2_with fail
        refine (writeString w.heap.size w.heap.size _ s w2 D2.out (by have := hsz.out; have := htl.out; simp only [List.length_append, List.length_singleton, Lib.byteCells_length]; omega) B2.out.size).mono ?_
        rintro e w3 ⟨rfl, d3, b3, _⟩
        have B3 : Hid (Below w.heap.size w w3) := B2.out.trans b3
        have D3 : Hid (Lib.IsBuilder 46 5 w.heap.size w.heap.size (Lib.byteCells (textTo xs (k + 1))) w3) := by
          show Lib.IsBuilder _ _ _ _ _ _
          rw [HS.out, cells_snoc, HP.out, ← textTo_step0 xs k H0.out] at d3
          exact .inr d3
        clear d3 b3
        go_wp2
        go_roundw
        case rel => exact ⟨k + 1, by omega, by go_num, D3.out, B3.out⟩
        case measure => simp [intOf]; omega
      · have H0 : Hid (k ≠ 0) := h0
        have hz : (0 : Int) < (k : Int) := by omega
        clear h0
        go_wp2_with fail
        rw [← HX.out]
        refine (writeByte w.heap.size w.heap.size _ 32 X XBd.out hlen.out XB.out.size).mono ?_
        rintro e w1 ⟨rfl, d1, b1, k1⟩
        have B1 : Hid (Below w.heap.size w w1) := XB.out.trans b1
        have D1 : Hid (Lib.IsBuilder 46 5 w.heap.size w.heap.size (Lib.byteCells (textTo xs k) ++ [.int .u8 32]) w1) := .inr d1
        have e1 : w1.heap[wr.heap.size]? = some (.cells #[.int .i64 p1, .int .i64 p2] 48) := k1 _ _ hX0.out (by have := hwr.out; intro e; injection e with e; omega) (by intro c fz; simp)
        have l0 : w1.cell? ⟨wr.heap.size, 0, none⟩ = some (.int .i64 p1) := by rw [cell_heap e1]; rfl
        have l1 : w1.cell? ⟨wr.heap.size, 1, none⟩ = some (.int .i64 p2) := by rw [cell_heap e1]; rfl
        clear d1 b1 k1 e1
        go_wp2_with fail
        refine (implText1 p1 p2 w1 hf.out.1 hf.out.2 (tab_below HT.out HT.out B1.out (Nat.le_refl _))).mono ?_
        rintro e w2 ⟨rfl, b2⟩
        have B2 : Hid (Below w.heap.size w w2) := B1.out.trans (b2.mono B1.out.size)
        have D2 : Hid (Lib.IsBuilder 46 5 w.heap.size w.heap.size (Lib.byteCells (textTo xs k) ++ [.int .u8 32]) w2) := isBuilder_keep D1.out b2
        obtain ⟨s, hs⟩ : ∃ s, s = str (boxText1 (p1, p2)) := ⟨_, rfl⟩
        have HS : Hid (s = str (boxText1 (p1, p2))) := hs
        have hsz : Hid (s.size ≤ 43) := by show _ ≤ _; rw [hs, str_size]; exact text1_len _ hf.out.1 hf.out.2
        rw [← hs]
        clear b2 hs
        go_wp2_with fail
        refine (writeString w.heap.size w.heap.size _ s w2 D2.out (by have := hsz.out; have := htl.out; simp only [List.length_append, List.length_singleton, Lib.byteCells_length]; omega) B2.out.size).mono ?_
        rintro e w3 ⟨rfl, d3, b3, _⟩
        have B3 : Hid (Below w.heap.size w w3) := B2.out.trans b3
        have D3 : Hid (Lib.IsBuilder 46 5 w.heap.size w.heap.size (Lib.byteCells (textTo xs (k + 1))) w3) := by
          show Lib.IsBuilder _ _ _ _ _ _
          rw [HS.out, cells_space, cells_snoc, HP.out, ← textTo_next xs k H0.out] at d3
          exact .inr d3
        clear d3 b3
        go_wp2
        go_roundw
        case rel => exact ⟨k + 1, by omega, by go_num, D3.out, B3.out⟩
        case measure => simp [intOf]; omega
    · go_wp2_with fail
      refine (Tryd.Builder_String_any w.heap.size w.heap.size (textTo xs k) wr HBd.out HB.out.size).mono ?_
      rintro e w1 ⟨rfl, hb⟩
      have HB1 : Hid (Below w.heap.size w w1) := HB.out.trans hb
      clear hb
      go_wp2
      go_ret
      have : k = xs.length := by omega
      subst this
      exact ⟨rfl, HB1.out⟩
end Go.Proofs.YtipbabkbmiaalaaDoor.Own
