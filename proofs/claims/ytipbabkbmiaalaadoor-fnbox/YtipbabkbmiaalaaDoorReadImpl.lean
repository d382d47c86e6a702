/-
  Own text: what impl.readBoxes and impl.BoxRead do.
-/
import Derived.Test.YtipbabkbmiaalaaDoorReadBox
import Derived.Test.YtipbabkbmiaalaaDoorDraw
import Derived.WalkMore
namespace Go.Proofs.YtipbabkbmiaalaaDoor.Own
open Go.RowKit
set_option linter.unusedVariables false
set_option linter.unusedSimpArgs false

theorem no_count (l : List UInt8) (h : (cutAll 32 [] l).length ≠ 4) : NoBoxes l := by
  intro ys ok e
  obtain ⟨h4, _⟩ := (boxOk_iff ys).1 ok
  rw [← e, cut_textOf ys (by intro h0; rw [h0] at h4; simp at h4), List.length_map] at h
  exact h h4
theorem cut_none (l : List UInt8) (h : (32 : UInt8) ∉ l) : cutAll 32 [] l = [l] := by
  have := cut_skip 32 l [] [] h
  simpa [cutAll] using this
theorem cut_some {l A B : List UInt8} (h : l = A ++ 32 :: B) (hA : (32 : UInt8) ∉ A) : cutAll 32 [] l = A :: cutAll 32 [] B := by
  rw [h, cut_skip 32 A [] _ hA]
  simp [cutAll]
theorem text_of_pieces {l : List UInt8} {ys : List (Int × Int)} (h : cutAll 32 [] l = ys.map boxText1) : textOf ys = l := by
  rw [textOf_join, ← h, join_cut]; rfl

/-- The answer's memory, and the array that is read into. -/
structure Ar (w wr : World) (ys : List (Int × Int)) : Prop where
  res : wr.heap[w.heap.size]? = some (.cells #[.int .i64 0, .int .i64 0, .int .i64 0, .int .i64 0, .int .i64 0, .int .i64 0, .int .i64 0, .int .i64 0] 56 (0, 0))
  fr : ∀ o, wr.frozen? ⟨w.heap.size + 1, o, none⟩ = false
  at_ : BoxAt wr (w.heap.size + 1) 0 ys
  bel : Below w.heap.size w wr

theorem frozen_block {w w' : World} {b : Nat} (h : w'.heap[b]? = w.heap[b]?) (o : Nat) : w'.frozen? ⟨b, o, none⟩ = w.frozen? ⟨b, o, none⟩ := by
  simp only [World.frozen?, h]

theorem Ar.keep {w wr W : World} {ys : List (Int × Int)} (h : Ar w wr ys) (hb : Below wr.heap.size wr W) : Ar w W ys := by
  have h1 : w.heap.size + 1 < wr.heap.size := h.at_.1
  refine ⟨(hb.block _ (by omega)).trans h.res, fun o => (frozen_block (hb.block _ h1) o).trans (h.fr o), h.at_.below hb, h.bel.trans (hb.mono h.bel.size)⟩

theorem Ar.put {w wr : World} {ys : List (Int × Int)} (h : Ar w wr ys) (k : Nat) (hk : k < ys.length) (p : Int × Int) : Ar w ((wr.setCell ⟨w.heap.size + 1, k * 2, none⟩ (.int .i64 p.1)).setCell ⟨w.heap.size + 1, k * 2 + 1, none⟩ (.int .i64 p.2)) (ys.set k p) := by
  have o : Only (w.heap.size + 1) wr ((wr.setCell ⟨w.heap.size + 1, k * 2, none⟩ (.int .i64 p.1)).setCell ⟨w.heap.size + 1, k * 2 + 1, none⟩ (.int .i64 p.2)) := ((Only.refl _ _).setCell _).setCell _
  refine ⟨(o.block _ (by omega)).trans h.res, fun x => (o.frozen x).trans (h.fr x), ?_, h.bel.trans (o.below (by omega))⟩
  have h1 := h.at_.setVer k hk p.1
  have h2 := h1.setVal k (by simpa using hk) p.2
  simp only [Nat.zero_add] at h1 h2
  have e : (ys.set k (p.1, (ys.getD k (0, 0)).2)).set k (((ys.set k (p.1, (ys.getD k (0, 0)).2)).getD k (0, 0)).1, p.2) = ys.set k p := by
    have : ((ys.set k (p.1, (ys.getD k (0, 0)).2)).getD k (0, 0)).1 = p.1 := by simp [List.getD, hk]
    rw [this, List.set_set]
  rw [e] at h2
  exact h2

theorem take3 {ys : List (Int × Int)} (h : ys.length = 4) : ys.take 3 = [ys.getD 0 (0, 0), ys.getD 1 (0, 0), ys.getD 2 (0, 0)] := by
  match ys, h with
  | [a, b, c, d], _ => rfl
theorem take_set_k {α : Type} (l : List α) (k : Nat) (x : α) : (l.set k x).take k = l.take k := by
  apply List.ext_getElem?
  intro i
  by_cases h : i < k
  · have : ¬ k = i := by omega
    simp [List.getElem?_take, List.getElem?_set, h, this]
  · simp [List.getElem?_take, h]
theorem four_of {k : Nat} (h : k ≤ 3) : k = 0 ∨ k = 1 ∨ k = 2 ∨ k = 3 := by omega

/-- The cells of the two arrays. -/
theorem ar_cells {w X : World} {ys : List (Int × Int)} (h : Ar w X ys) (hy : ys.length = 4) :
    (X.cell? ⟨w.heap.size + 1, 0, none⟩ = some (.int .i64 (ys.getD 0 (0, 0)).1) ∧ X.cell? ⟨w.heap.size + 1, 1, none⟩ = some (.int .i64 (ys.getD 0 (0, 0)).2) ∧ X.cell? ⟨w.heap.size + 1, 2, none⟩ = some (.int .i64 (ys.getD 1 (0, 0)).1) ∧ X.cell? ⟨w.heap.size + 1, 3, none⟩ = some (.int .i64 (ys.getD 1 (0, 0)).2) ∧
      X.cell? ⟨w.heap.size + 1, 4, none⟩ = some (.int .i64 (ys.getD 2 (0, 0)).1) ∧ X.cell? ⟨w.heap.size + 1, 5, none⟩ = some (.int .i64 (ys.getD 2 (0, 0)).2) ∧ X.cell? ⟨w.heap.size + 1, 6, none⟩ = some (.int .i64 (ys.getD 3 (0, 0)).1) ∧ X.cell? ⟨w.heap.size + 1, 7, none⟩ = some (.int .i64 (ys.getD 3 (0, 0)).2)) ∧
    (∀ o, X.frozen? ⟨w.heap.size + 1, o, none⟩ = false) ∧ (∀ o, X.cell? ⟨w.heap.size, o, none⟩ = (#[.int .i64 0, .int .i64 0, .int .i64 0, .int .i64 0, .int .i64 0, .int .i64 0, .int .i64 0, .int .i64 0] : Array Value)[o]?) ∧ (∀ o, X.frozen? ⟨w.heap.size, o, none⟩ = false) := by
  have h0 := h.at_.2 0 (by omega)
  have h1 := h.at_.2 1 (by omega)
  have h2 := h.at_.2 2 (by omega)
  have h3 := h.at_.2 3 (by omega)
  simp only [Nat.zero_mul, Nat.zero_add, Nat.one_mul, Nat.reduceMul, Nat.reduceAdd] at h0 h1 h2 h3
  exact ⟨⟨h0.1, h0.2, h1.1, h1.2, h2.1, h2.2, h3.1, h3.2⟩, h.fr, fun o => cell_heap h.res o, fun o => frozen_heap h.res o⟩

def ReadsBoxes (l : List UInt8) (e : Ending) : Prop :=
  (∃ x0 x1 x2 x3 x4 x5 x6 x7 : Int, textOf [(x0, x1), (x2, x3), (x4, x5), (x6, x7)] = l ∧ e = .returned (.tuple #[.agg #[.int .i64 x0, .int .i64 x1, .int .i64 x2, .int .i64 x3, .int .i64 x4, .int .i64 x5, .int .i64 x6, .int .i64 x7], .bool true])) ∨
  (NoBoxes l ∧ e = .returned (.tuple #[.agg #[.int .i64 0, .int .i64 0, .int .i64 0, .int .i64 0, .int .i64 0, .int .i64 0, .int .i64 0, .int .i64 0], .bool false]))

set_option maxHeartbeats 4000000 in
theorem readBoxes (s : ByteArray) (w : World) (hs : s.size ≤ 100) (hE : Env w) : Calls Tryd.prog 31 #[.string s] w fun e w' =>
    ReadsBoxes s.data.toList e ∧ Below w.heap.size w w' := by
  have HE : Hid (Env w) := hE
  clear hE
  go_enter Tryd.func31, Tryd.ntmps31
  go_wp2
  go_step3
  go_wp2
  go_step3
  go_wp2
  go_loopw [14, 5] (fun i r wr => ∃ (k : Nat) (rest : ByteArray) (ys : List (Int × Int)), k ≤ 3 ∧ i = .int .i64 k ∧ r = .string rest ∧ ys.length = 4 ∧ rest.size ≤ 100 ∧ Ar w wr ys ∧ cutAll 32 [] s.data.toList = (ys.take k).map boxText1 ++ cutAll 32 [] rest.data.toList) (fun i _ _ => 4 - (intOf i).toNat)
  case atStart =>
    refine ⟨0, s, zero4, by omega, rfl, rfl, rfl, hs, ?_, by simp⟩
    refine ⟨heap_new1 _ _ _, fun o => frozen_heap (heap_new2 _ _ _) o, zeros_at (heap_new2 _ _ _), ((Below.refl _ _).alloc (Nat.le_refl _) _).alloc (by simp) _⟩
  case round =>
    obtain ⟨k, rest, ys, hk, rfl, rfl, hy, hr, har, hcut⟩ := hrel
    have HA : Hid (Ar w wr ys) := har
    have HC : Hid (cutAll 32 [] s.data.toList = (ys.take k).map boxText1 ++ cutAll 32 [] rest.data.toList) := hcut
    have HY : Hid (ys.length = 4) := hy
    have k4 : (k : Int) < 4 := by omega
    clear har hcut hy
    go_wp2_with fail
    refine (cutC rest 32 wr hr (HE.out.keep HA.out.bel)).mono ?_
    rintro e w1 ⟨h1, b1⟩
    have A1 : Hid (Ar w w1 ys) := HA.out.keep b1
    clear b1
    obtain ⟨word, behind, more, rfl, zw, zb, HW⟩ : ∃ (word behind : ByteArray) (more : Bool), e = .returned (.tuple #[.string word, .string behind, .bool more]) ∧ word.size ≤ 100 ∧ behind.size ≤ 100 ∧ Hid (cutAll 32 [] rest.data.toList = word.data.toList :: (if more then cutAll 32 [] behind.data.toList else [])) := by
      rcases h1 with ⟨h1, rfl⟩ | ⟨A, B, h1, h2, rfl⟩
      · exact ⟨rest, ⟨#[]⟩, false, rfl, hr, by simp [ByteArray.size], by show _ = _; rw [cut_none _ h1]; rfl⟩
      · have hl : A.length + (B.length + 1) = rest.size := by rw [← size_list, h1]; simp
        refine ⟨str A, str B, true, rfl, by rw [str_size]; omega, by rw [str_size]; omega, ?_⟩
        show _ = _
        rw [cut_some h1 h2, str_list, str_list]; rfl
    clear h1
    have BAD : Hid ((∀ p : Int × Int, Fits p.1 → Fits p.2 → boxText1 p ≠ word.data.toList) → NoBoxes s.data.toList) := by
      intro h
      refine no_piece _ word.data.toList ?_ (fun y h1 h2 => h y h1.fits h2.fits)
      rw [HC.out, HW.out]; simp
    go_wp2_with fail
    refine (readBox word w1 zw (HE.out.keep A1.out.bel)).mono ?_
    rintro e w2 ⟨h2, b2⟩
    have A2 : Hid (Ar w w2 ys) := A1.out.keep b2
    clear b2
    obtain ⟨p1, p2, ok, rfl, HOK⟩ : ∃ (p1 p2 : Int) (ok : Bool), e = .returned (.tuple #[.agg #[.int .i64 p1, .int .i64 p2], .bool ok]) ∧ Hid (if ok then boxText1 (p1, p2) = word.data.toList else NoBoxes s.data.toList) := by
      rcases h2 with ⟨p, _, h, rfl⟩ | ⟨h, rfl⟩
      · exact ⟨p.1, p.2, true, rfl, h⟩
      · exact ⟨0, 0, false, rfl, BAD.out h⟩
    clear h2 BAD
    obtain ⟨X, hX⟩ : ∃ X, X = w2.alloc (.cells #[.int .i64 p1, .int .i64 p2] 48) := ⟨_, rfl⟩
    have HX : Hid (X = w2.alloc (.cells #[.int .i64 p1, .int .i64 p2] 48)) := hX
    have AX : Hid (Ar w X ys) := by
      show Ar _ _ _
      rw [hX]; exact A2.out.keep ((Below.refl _ _).alloc (Nat.le_refl _) _)
    clear hX
    have AY : Hid (Ar w ((X.setCell ⟨w.heap.size + 1, k * 2, none⟩ (.int .i64 p1)).setCell ⟨w.heap.size + 1, k * 2 + 1, none⟩ (.int .i64 p2)) (ys.set k (p1, p2))) := AX.out.put k (by have := HY.out; omega) (p1, p2)
    obtain ⟨⟨v1, v2, v3, v4, v5, v6, v7, v8⟩, fr, rs, rf⟩ := ar_cells AX.out HY.out
    rw [HX.out] at v1 v2 v3 v4 v5 v6 v7 v8 fr rs rf
    have HK : Hid (k ≤ 3) := hk
    have BY : Hid (Below w.heap.size w (((w2.alloc (.cells #[.int .i64 p1, .int .i64 p2] 48)).setCell ⟨w.heap.size + 1, k * 2, none⟩ (.int .i64 p1)).setCell ⟨w.heap.size + 1, k * 2 + 1, none⟩ (.int .i64 p2))) := by
      have h := AY.out.bel
      rw [HX.out] at h
      exact h
    cases ok with
    | false =>
      have HN : Hid (NoBoxes s.data.toList) := by have h := HOK.out; rw [if_neg (by simp)] at h; exact h
      rcases four_of HK.out with rfl | rfl | rfl | rfl
      all_goals
        go_wp2
        show bodyPost Tryd.prog Tryd.f31 (fun e w' => ReadsBoxes s.data.toList e ∧ Below w.heap.size w w') Exit.ret _ _
        refine bodyPost_ret (v := .tuple #[.agg #[.int .i64 0, .int .i64 0, .int .i64 0, .int .i64 0, .int .i64 0, .int .i64 0, .int .i64 0, .int .i64 0], .bool false]) (by simp [results, Tryd.results31, go_sem, rs, rf]) rfl ⟨.inr ⟨HN.out, rfl⟩, ?_⟩
        exact ((((((((BY.out.setCell (Nat.le_refl _) _).setCell (Nat.le_refl _) _).setCell (Nat.le_refl _) _).setCell (Nat.le_refl _) _).setCell (Nat.le_refl _) _).setCell (Nat.le_refl _) _).setCell (Nat.le_refl _) _).setCell (Nat.le_refl _) _)
    | true =>
      have HB : Hid (boxText1 (p1, p2) = word.data.toList) := by have h := HOK.out; rw [if_pos rfl] at h; exact h
      cases more with
      | false =>
        have HW1 : Hid (cutAll 32 [] s.data.toList = (ys.take k).map boxText1 ++ [word.data.toList]) := by
          show _ = _
          rw [HC.out, HW.out]; simp
        have HN : Hid (k < 3 → NoBoxes s.data.toList) := by
          intro h3
          refine no_count _ ?_
          rw [HW1.out]
          have := HY.out
          simp; omega
        rcases four_of HK.out with rfl | rfl | rfl | rfl
        iterate 3
          focus
            go_wp2
            show bodyPost Tryd.prog Tryd.f31 (fun e w' => ReadsBoxes s.data.toList e ∧ Below w.heap.size w w') Exit.ret _ _
            refine bodyPost_ret (v := .tuple #[.agg #[.int .i64 0, .int .i64 0, .int .i64 0, .int .i64 0, .int .i64 0, .int .i64 0, .int .i64 0, .int .i64 0], .bool false]) (by simp [results, Tryd.results31, go_sem, rs, rf]) rfl ⟨.inr ⟨HN.out (by decide), rfl⟩, ?_⟩
            exact ((((((((BY.out.setCell (Nat.le_refl _) _).setCell (Nat.le_refl _) _).setCell (Nat.le_refl _) _).setCell (Nat.le_refl _) _).setCell (Nat.le_refl _) _).setCell (Nat.le_refl _) _).setCell (Nat.le_refl _) _).setCell (Nat.le_refl _) _)
        go_wp2
        show bodyPost Tryd.prog Tryd.f31 (fun e w' => ReadsBoxes s.data.toList e ∧ Below w.heap.size w w') Exit.ret _ _
        refine bodyPost_ret (v := .tuple #[.agg #[.int .i64 (ys.getD 0 (0, 0)).1, .int .i64 (ys.getD 0 (0, 0)).2, .int .i64 (ys.getD 1 (0, 0)).1, .int .i64 (ys.getD 1 (0, 0)).2, .int .i64 (ys.getD 2 (0, 0)).1, .int .i64 (ys.getD 2 (0, 0)).2, .int .i64 p1, .int .i64 p2], .bool true]) (by simp [results, Tryd.results31, go_sem, rs, rf]) rfl ⟨.inl ⟨_, _, _, _, _, _, _, _, ?_, rfl⟩, ?_⟩
        · apply text_of_pieces
          rw [HW1.out, ← HB.out, take3 HY.out]
          rfl
        · exact ((((((((BY.out.setCell (Nat.le_refl _) _).setCell (Nat.le_refl _) _).setCell (Nat.le_refl _) _).setCell (Nat.le_refl _) _).setCell (Nat.le_refl _) _).setCell (Nat.le_refl _) _).setCell (Nat.le_refl _) _).setCell (Nat.le_refl _) _)
      | true =>
        have HW1 : Hid (cutAll 32 [] s.data.toList = (ys.take k).map boxText1 ++ (word.data.toList :: cutAll 32 [] behind.data.toList)) := by
          show _ = _
          rw [HC.out, HW.out]; simp
        have HN : Hid (k = 3 → NoBoxes s.data.toList) := by
          intro h3
          refine no_count _ ?_
          rw [HW1.out]
          have := HY.out
          have h0 := cutAll_ne 32 [] behind.data.toList
          have h1 : (cutAll 32 [] behind.data.toList).length ≠ 0 := fun h => h0 (List.eq_nil_of_length_eq_zero h)
          simp; omega
        have HS : Hid (k < 3 → cutAll 32 [] s.data.toList = ((ys.set k (p1, p2)).take (k + 1)).map boxText1 ++ cutAll 32 [] behind.data.toList) := by
          intro h3
          have hy := HY.out
          rw [HW1.out, ← HB.out, List.take_succ_eq_append_getElem (by simp; omega), take_set_k]
          simp
        have AZ : Hid (Ar w (((w2.alloc (.cells #[.int .i64 p1, .int .i64 p2] 48)).setCell ⟨w.heap.size + 1, k * 2, none⟩ (.int .i64 p1)).setCell ⟨w.heap.size + 1, k * 2 + 1, none⟩ (.int .i64 p2)) (ys.set k (p1, p2))) := by
          have h := AY.out
          rw [HX.out] at h
          exact h
        rcases four_of HK.out with rfl | rfl | rfl | rfl
        iterate 3
          focus
            go_wp2
            go_roundw
            case rel => exact ⟨_, behind, _, by decide, by go_num, rfl, by rw [List.length_set]; exact HY.out, zb, AZ.out, HS.out (by decide)⟩
            case measure => simp [intOf]
        go_wp2
        show bodyPost Tryd.prog Tryd.f31 (fun e w' => ReadsBoxes s.data.toList e ∧ Below w.heap.size w w') Exit.ret _ _
        refine bodyPost_ret (v := .tuple #[.agg #[.int .i64 0, .int .i64 0, .int .i64 0, .int .i64 0, .int .i64 0, .int .i64 0, .int .i64 0, .int .i64 0], .bool false]) (by simp [results, Tryd.results31, go_sem, rs, rf]) rfl ⟨.inr ⟨HN.out (by simp), rfl⟩, ?_⟩
        exact ((((((((BY.out.setCell (Nat.le_refl _) _).setCell (Nat.le_refl _) _).setCell (Nat.le_refl _) _).setCell (Nat.le_refl _) _).setCell (Nat.le_refl _) _).setCell (Nat.le_refl _) _).setCell (Nat.le_refl _) _).setCell (Nat.le_refl _) _)
end Go.Proofs.YtipbabkbmiaalaaDoor.Own
