/-
  Own text: what impl.BoxRead does.
-/
import Derived.Test.YtipbabkbmiaalaaDoorReadImpl
namespace Go.Proofs.YtipbabkbmiaalaaDoor.Own
open Go.RowKit
set_option linter.unusedVariables false
set_option linter.unusedSimpArgs false

theorem arr8_at {w : World} {b : Nat} {t : TypeId} {x0 x1 x2 x3 x4 x5 x6 x7 : Int} (h : w.heap[b]? = some (.cells (arr8 x0 x1 x2 x3 x4 x5 x6 x7) t (0, 0))) : BoxAt w b 0 [(x0, x1), (x2, x3), (x4, x5), (x6, x7)] := by
  refine ⟨(Array.getElem?_eq_some_iff.1 h).1, fun k hk => ?_⟩
  rw [cell_heap h, cell_heap h]
  match k, hk with
  | 0, _ | 1, _ | 2, _ | 3, _ => exact ⟨rfl, rfl⟩

/-- What a reader of boxes answers: the boxes of the text, in memory of their own; or nothing, where no boxes that are ok have this text. -/
def ReadsList (l : List UInt8) (N : Nat) (e : Ending) (w' : World) : Prop :=
  (∃ (xs : List (Int × Int)) (g : Nat), boxOk xs = true ∧ textOf xs = l ∧ N ≤ g ∧ e = .returned (.tuple #[.slice (some ⟨g, 0, none⟩) 4 4, .bool true]) ∧ BoxAt w' g 0 xs ∧ Row w' g 4) ∨
  (NoBoxes l ∧ e = .returned (.tuple #[.slice none 0 0, .bool false]))

set_option maxHeartbeats 4000000 in
theorem implRead (s : ByteArray) (w : World) (hs : s.size ≤ 1048576) (hE : Env w) : Calls Tryd.prog 9 #[.string s] w fun e w' =>
    ReadsList s.data.toList w.heap.size e w' ∧ Below w.heap.size w w' := by
  have HE : Hid (Env w) := hE
  clear hE
  by_cases h100 : s.size ≤ 100
  · go_enter Tryd.func9, Tryd.ntmps9
    go_wp2_with fail
    refine (readBoxes s w h100 HE.out).mono ?_
    rintro e w1 ⟨h, b1⟩
    have B1 : Hid (Below w.heap.size w w1) := b1
    clear b1
    rcases h with ⟨x0, x1, x2, x3, x4, x5, x6, x7, ht, rfl⟩ | ⟨hn, rfl⟩
    · have HT : Hid (textOf [(x0, x1), (x2, x3), (x4, x5), (x6, x7)] = s.data.toList) := ht
      clear ht
      obtain ⟨X, hX⟩ : ∃ X, X = w1.alloc (.cells #[.int .i64 x0, .int .i64 x1, .int .i64 x2, .int .i64 x3, .int .i64 x4, .int .i64 x5, .int .i64 x6, .int .i64 x7] 56) := ⟨_, rfl⟩
      have HX : Hid (X = w1.alloc (.cells #[.int .i64 x0, .int .i64 x1, .int .i64 x2, .int .i64 x3, .int .i64 x4, .int .i64 x5, .int .i64 x6, .int .i64 x7] 56)) := hX
      have BX : Hid (Below w.heap.size w X) := by
        show Below _ _ _
        rw [hX]; exact B1.out.alloc B1.out.size _
      have X0 : Hid (X.heap[w1.heap.size]? = some (.cells #[.int .i64 x0, .int .i64 x1, .int .i64 x2, .int .i64 x3, .int .i64 x4, .int .i64 x5, .int .i64 x6, .int .i64 x7] 56)) := by show _ = _; rw [hX]; exact heap_new _ _
      clear hX
      obtain ⟨ok, hok⟩ : ∃ ok, ok = [(x0, x1), (x2, x3), (x4, x5), (x6, x7)].all boxOk1 := ⟨_, rfl⟩
      have HOK : Hid (ok = [(x0, x1), (x2, x3), (x4, x5), (x6, x7)].all boxOk1) := hok
      clear hok
      go_wp2_with fail
      rw [← HX.out]
      refine (arrOk x0 x1 x2 x3 x4 x5 x6 x7 X).mono ?_
      rintro e w2 ⟨rfl, b2⟩
      rw [← HOK.out]
      have B2 : Hid (Below w.heap.size w w2) := BX.out.trans (b2.mono BX.out.size)
      have q : ∀ o, w2.cell? ⟨w1.heap.size, o, none⟩ = (#[.int .i64 x0, .int .i64 x1, .int .i64 x2, .int .i64 x3, .int .i64 x4, .int .i64 x5, .int .i64 x6, .int .i64 x7] : Array Value)[o]? := by
        have e : w2.heap[w1.heap.size]? = _ := (b2.block _ (Array.getElem?_eq_some_iff.1 X0.out).1).trans X0.out
        exact fun o => cell_heap e o
      clear b2
      cases ok with
      | true =>
        go_wp2_with fail
        refine (arrList x0 x1 x2 x3 x4 x5 x6 x7 w2).mono ?_
        rintro e w3 ⟨rfl, h3, b3, s3⟩
        have H3 : Hid (w3.heap[w2.heap.size + 1]? = some (.cells (arr8 x0 x1 x2 x3 x4 x5 x6 x7) 48 (0, 0))) := h3
        have B3 : Hid (Below w.heap.size w w3) := B2.out.trans (b3.mono B2.out.size)
        clear h3 b3 s3
        go_wp2
        refine bodyPost_ret (v := .tuple #[.slice (some ⟨w2.heap.size + 1, 0, none⟩) 4 4, .bool true]) (by simp [results, Tryd.results9, go_sem]) rfl ⟨.inl ⟨_, _, ?_, HT.out, ?_, rfl, arr8_at H3.out, ⟨_, H3.out, rfl, ?_⟩⟩, B3.out⟩
        · have := HOK.out
          simp only [boxOk]
          rw [← this]; rfl
        · have := B2.out.size; omega
        · simp [arr8, Value.oneCell']
      | false =>
        go_wp2
        refine bodyPost_ret (v := .tuple #[.slice none 0 0, .bool false]) (by simp [results, Tryd.results9, go_sem]) rfl ⟨.inr ⟨?_, rfl⟩, B2.out⟩
        rw [← HT.out]
        refine no_other _ ?_
        have := HOK.out
        simp only [boxOk]
        rw [← this]; rfl
    · have HN : Hid (NoBoxes s.data.toList) := hn
      clear hn
      go_wp2
      refine bodyPost_ret (v := .tuple #[.slice none 0 0, .bool false]) (by simp [results, Tryd.results9, go_sem]) rfl ⟨.inr ⟨HN.out, rfl⟩, ?_⟩
      exact B1.out.alloc B1.out.size _
  · have hz : (100 : Int) < s.size := by omega
    go_enter Tryd.func9, Tryd.ntmps9
    go_wp2
    refine bodyPost_ret (v := .tuple #[.slice none 0 0, .bool false]) (by simp [results, Tryd.results9, go_sem]) rfl ⟨.inr ⟨no_long _ (by rw [size_list]; omega), rfl⟩, Below.refl _ _⟩
end Go.Proofs.YtipbabkbmiaalaaDoor.Own
