/-
  Own text: what impl.readBox does.
-/
import Derived.Test.YtipbabkbmiaalaaDoorReadNum
namespace Go.Proofs.YtipbabkbmiaalaaDoor.Own
open Go.RowKit
set_option linter.unusedVariables false
set_option linter.unusedSimpArgs false

/-- The box of a text, as writing tells it. -/
def ReadsBox (l : List UInt8) (e : Ending) : Prop :=
  (∃ p : Int × Int, (Fits p.1 ∧ Fits p.2) ∧ boxText1 p = l ∧ e = .returned (.tuple #[.agg #[.int .i64 p.1, .int .i64 p.2], .bool true])) ∨ ((∀ p : Int × Int, Fits p.1 → Fits p.2 → boxText1 p ≠ l) ∧ e = .returned (.tuple #[.agg #[.int .i64 0, .int .i64 0], .bool false]))

theorem itoa_ne_nil (n : Int) : Lib.itoa n ≠ [] := by
  by_cases h : n < 0
  · rw [itoa_neg' n h]; simp
  · rw [itoa_pos' n h]; exact dec_ne_nil _

/-- The two parts of a box's text: what strings.Cut hands on. -/
theorem parts_of (s : ByteArray) (w : World) (hs : s.size ≤ 100) (hE : Env w) : Calls Tryd.prog 48 #[.string s, .string ⟨#[47]⟩] w fun e w' =>
    (∃ (a b : ByteArray) (m : Bool), e = .returned (.tuple #[.string a, .string b, .bool m]) ∧ a.size ≤ 100 ∧ b.size ≤ 100 ∧ Hid (∀ p : Int × Int, boxText1 p = s.data.toList ↔ Lib.itoa p.2 = a.data.toList ∧ Lib.itoa p.1 = b.data.toList)) ∧ Below w.heap.size w w' := by
  refine (cutC s 47 w hs hE).mono ?_
  rintro e w' ⟨h, hb⟩
  refine ⟨?_, hb⟩
  rcases h with ⟨h1, rfl⟩ | ⟨A, B, h1, h2, rfl⟩
  · refine ⟨s, ⟨#[]⟩, false, rfl, hs, by simp [ByteArray.size], fun p => ⟨fun h => ?_, fun h => ?_⟩⟩
    · exact absurd (by rw [← h]; exact text1_slash p) h1
    · exact absurd h.2 (itoa_ne_nil p.1)
  · have hl : A.length + (B.length + 1) = s.size := by rw [← size_list, h1]; simp
    refine ⟨str A, str B, true, rfl, by rw [str_size]; omega, by rw [str_size]; omega, fun p => ?_⟩
    rw [str_list, str_list, h1]
    refine ⟨text1_cut h2, fun h => ?_⟩
    unfold boxText1
    rw [h.1, h.2]

set_option maxHeartbeats 2000000 in
theorem readBox (s : ByteArray) (w : World) (hs : s.size ≤ 100) (hE : Env w) : Calls Tryd.prog 49 #[.string s] w fun e w' =>
    ReadsBox s.data.toList e ∧ Below w.heap.size w w' := by
  obtain ⟨X, hX⟩ : ∃ X, X = w.alloc (.cells #[.int .i64 0, .int .i64 0] 48) := ⟨_, rfl⟩
  have HX : Hid (X = w.alloc (.cells #[.int .i64 0, .int .i64 0] 48)) := hX
  have BX : Hid (Below w.heap.size w X) := by show Below _ _ _; rw [hX]; exact (Below.refl _ _).alloc (Nat.le_refl _) _
  have EX : Hid (Env X) := hE.keep BX.out
  have X0 : Hid (X.heap[w.heap.size]? = some (.cells #[.int .i64 0, .int .i64 0] 48)) := by show _ = _; rw [hX]; exact heap_new _ _
  have SX : Hid (X.heap.size = w.heap.size + 1) := by show _ = _; rw [hX]; exact size_new _ _
  clear hX hE
  go_enter Tryd.func49, Tryd.ntmps49
  go_wp2_with fail
  rw [← HX.out]
  refine (parts_of s X hs EX.out).mono ?_
  rintro e w1 ⟨⟨a, b, m, rfl, ha, hb, HP⟩, b1⟩
  have B1 : Hid (Below X.heap.size X w1) := b1
  clear b1
  go_wp2_with fail
  refine (readNumber a w1 ha (EX.out.keep B1.out)).mono ?_
  rintro e w2 ⟨r2, b2⟩
  have B2 : Hid (Below X.heap.size X w2) := B1.out.trans (b2.mono B1.out.size)
  clear b2
  have NX : ∀ W : World, Below X.heap.size X W → Hid (Below w.heap.size w W) ∧ W.cell? ⟨w.heap.size, 0, none⟩ = some (.int .i64 0) ∧ W.cell? ⟨w.heap.size, 1, none⟩ = some (.int .i64 0) ∧ (∀ o, W.frozen? ⟨w.heap.size, o, none⟩ = false) := by
    intro W hW
    have e : W.heap[w.heap.size]? = some (.cells #[.int .i64 0, .int .i64 0] 48) := (hW.block _ (by rw [SX.out]; omega)).trans X0.out
    exact ⟨BX.out.trans (hW.mono BX.out.size), by rw [cell_heap e]; rfl, by rw [cell_heap e]; rfl, frozen_heap e⟩
  have HN : Hid (∀ W : World, Below X.heap.size X W → Hid (Below w.heap.size w W) ∧ W.cell? ⟨w.heap.size, 0, none⟩ = some (.int .i64 0) ∧ W.cell? ⟨w.heap.size, 1, none⟩ = some (.int .i64 0) ∧ (∀ o, W.frozen? ⟨w.heap.size, o, none⟩ = false)) := NX
  clear NX
  rcases r2 with ⟨v, fv, iv, rfl⟩ | ⟨nv, rfl⟩
  · have HV : Hid (Fits v ∧ Lib.itoa v = a.data.toList) := ⟨fv, iv⟩
    clear fv iv
    go_wp2_with fail
    refine (readNumber b w2 hb (EX.out.keep B2.out)).mono ?_
    rintro e w3 ⟨r3, b3⟩
    have B3 : Hid (Below X.heap.size X w3) := B2.out.trans (b3.mono B2.out.size)
    clear b3
    obtain ⟨q1, q2, q3, q4⟩ := HN.out w3 B3.out
    rcases r3 with ⟨n, fn, inn, rfl⟩ | ⟨nn, rfl⟩
    · have HM : Hid (Fits n ∧ Lib.itoa n = b.data.toList) := ⟨fn, inn⟩
      clear fn inn
      go_wp2
      refine bodyPost_ret (v := .tuple #[.agg #[.int .i64 n, .int .i64 v], .bool true]) (by simp [results, Tryd.results49, go_sem, q2, q3, q4]) rfl ⟨.inl ⟨(n, v), ⟨HM.out.1, HV.out.1⟩, (HP.out (n, v)).2 ⟨HV.out.2, HM.out.2⟩, rfl⟩, ?_⟩
      exact (q1.out.setCell (Nat.le_refl _) _).setCell (Nat.le_refl _) _
    · have NN : Hid (∀ n, Fits n → Lib.itoa n ≠ b.data.toList) := nn
      clear nn
      go_wp2
      refine bodyPost_ret (v := .tuple #[.agg #[.int .i64 0, .int .i64 0], .bool false]) (by simp [results, Tryd.results49, go_sem, q2, q3, q4]) rfl ⟨.inr ⟨fun p f1 f2 h => NN.out p.1 f1 ((HP.out p).1 h).2, rfl⟩, ?_⟩
      exact (q1.out.setCell (Nat.le_refl _) _).setCell (Nat.le_refl _) _
  · have NN : Hid (∀ n, Fits n → Lib.itoa n ≠ a.data.toList) := nv
    clear nv
    go_wp2_with fail
    refine (readNumber b w2 hb (EX.out.keep B2.out)).mono ?_
    rintro e w3 ⟨r3, b3⟩
    have B3 : Hid (Below X.heap.size X w3) := B2.out.trans (b3.mono B2.out.size)
    clear b3
    obtain ⟨q1, q2, q3, q4⟩ := HN.out w3 B3.out
    obtain ⟨n, bb, rfl⟩ : ∃ (n : Int) (bb : Bool), e = .returned (.tuple #[.int .i64 n, .bool bb]) := by
      rcases r3 with ⟨n, _, _, rfl⟩ | ⟨_, rfl⟩
      · exact ⟨_, _, rfl⟩
      · exact ⟨_, _, rfl⟩
    clear r3
    go_wp2
    refine bodyPost_ret (v := .tuple #[.agg #[.int .i64 0, .int .i64 0], .bool false]) (by simp [results, Tryd.results49, go_sem, q2, q3, q4]) rfl ⟨.inr ⟨fun p f1 f2 h => NN.out p.2 f2 ((HP.out p).1 h).1, rfl⟩, ?_⟩
    exact (q1.out.setCell (Nat.le_refl _) _).setCell (Nat.le_refl _) _
end Go.Proofs.YtipbabkbmiaalaaDoor.Own
