/-
  Own text: what (*impl.wordReader).word and number do.
-/
import Derived.Test.YtbcnmmofccackaaGreatDoorReadNum
import Derived.Test.YtbcnmmofccackaaGreatDoorRead2Math
import Derived.Test.YtbcnmmofccackaaGreatDoorTextI2
import Derived.Test.YtbcnmmofccackaaGreatDoorBar
namespace Go.Proofs.YtbcnmmofccackaaGreatDoor.Own
open Go.RowKit
set_option linter.unusedVariables false
set_option linter.unusedSimpArgs false

/-- A reader in block rb: the pieces that are still to come, whether a space stood behind the last word, whether it has failed. -/
def RdW (w : World) (rb : Nat) (rs : List (List UInt8)) (m f : Bool) : Prop := w.heap[rb]? = some (.cells #[.string (str (joinAll 32 rs)), .bool m, .bool f] 53 (0, 0))

theorem RdW.lt {w : World} {rb : Nat} {rs : List (List UInt8)} {m f : Bool} (h : RdW w rb rs m f) : rb < w.heap.size := (Array.getElem?_eq_some_iff.1 h).1
theorem RdW.below {w w' : World} {rb : Nat} {rs : List (List UInt8)} {m f : Bool} (h : RdW w rb rs m f) (hb : Below w.heap.size w w') : RdW w' rb rs m f := by
  have hlt := h.lt
  unfold RdW at *
  rw [hb.block rb hlt]; exact h
theorem RdW.cells {w : World} {rb : Nat} {rs : List (List UInt8)} {m f : Bool} (h : RdW w rb rs m f) : w.cell? ⟨rb, 0, none⟩ = some (.string (str (joinAll 32 rs))) ∧ w.cell? ⟨rb, 1, none⟩ = some (.bool m) ∧ w.cell? ⟨rb, 2, none⟩ = some (.bool f) ∧ (∀ o, w.frozen? ⟨rb, o, none⟩ = false) :=
  ⟨by rw [cell_heap h]; rfl, by rw [cell_heap h]; rfl, by rw [cell_heap h]; rfl, fun o => frozen_heap h o⟩

theorem setCell_heap_same (w : World) (b o : Nat) (v : Value) (c : Array Value) (t : TypeId) (h : w.heap[b]? = some (.cells c t (0, 0))) : (w.setCell ⟨b, o, none⟩ v).heap[b]? = some (.cells (c.setIfInBounds o v) t (0, 0)) := by
  simp [World.setCell, Array.getElem?_modify, h]

theorem RdW.turn {w : World} {rb : Nat} {rs rs' : List (List UInt8)} {m m' f : Bool} (h : RdW w rb rs m f) : RdW ((w.setCell ⟨rb, 0, none⟩ (.string (str (joinAll 32 rs')))).setCell ⟨rb, 1, none⟩ (.bool m')) rb rs' m' f := by
  unfold RdW
  rw [setCell_heap_same _ _ _ _ _ _ (setCell_heap_same _ _ _ _ _ _ h)]
  simp
theorem RdW.fail {w : World} {rb : Nat} {rs : List (List UInt8)} {m f : Bool} (h : RdW w rb rs m f) : RdW (w.setCell ⟨rb, 2, none⟩ (.bool true)) rb rs m true := by
  unfold RdW
  rw [setCell_heap_same _ _ _ _ _ _ h]
  simp

theorem Bar.put {rb : Nat} {a w : World} (h : Bar rb a w) (o : Nat) (v : Value) : Bar rb a (w.setCell ⟨rb, o, none⟩ v) := h.trans (Bar.ofOnly ((Only.refl _ _).setCell _))

/-- The head of what is to come, cut off at its space. -/
theorem cut_head (rs : List (List UInt8)) (hn : ∀ x ∈ rs, (32 : UInt8) ∉ x) :
    ((32 : UInt8) ∉ joinAll 32 rs ∧ rs.headD [] = joinAll 32 rs ∧ rs.tail = []) ∨ (∃ A B, joinAll 32 rs = A ++ 32 :: B ∧ (32 : UInt8) ∉ A ∧ rs.headD [] = A ∧ B = joinAll 32 rs.tail ∧ rs.tail ≠ []) := by
  match rs, hn with
  | [], _ => exact .inl ⟨by simp [joinAll], rfl, rfl⟩
  | [x], hn => exact .inl ⟨hn x (by simp), rfl, rfl⟩
  | x :: y :: r, hn => exact .inr ⟨x, joinAll 32 (y :: r), rfl, hn x (by simp), rfl, rfl, by simp⟩

def moreOf (rs : List (List UInt8)) : Bool := !rs.isEmpty

set_option maxHeartbeats 2000000 in
theorem wordC (rb : Nat) (rs : List (List UInt8)) (m f : Bool) (w : World) (h : RdW w rb rs m f) (hE : Env w) (hn : ∀ x ∈ rs, (32 : UInt8) ∉ x) (hl : (joinAll 32 rs).length ≤ 400) :
    Calls Tryz.prog 45 #[.pointer (some ⟨rb, 0, none⟩)] w fun e w' => e = .returned (.string (str (rs.headD []))) ∧ RdW w' rb rs.tail (moreOf rs.tail) f ∧ Bar rb w w' := by
  have HR : Hid (RdW w rb rs m f) := h
  have HE : Hid (Env w) := hE
  obtain ⟨c0, c1, c2, cf⟩ := h.cells
  have f0 := cf 0
  have f1 := cf 1
  have HC := cut_head rs hn
  obtain ⟨s, hs⟩ : ∃ s, s = str (joinAll 32 rs) := ⟨_, rfl⟩
  have hsz : s.size ≤ 1000 := by rw [hs, str_size]; omega
  have HS : Hid (s.data.toList = joinAll 32 rs) := by show _ = _; rw [hs, str_list]
  rw [← hs] at c0
  have HS2 : Hid (s = str (joinAll 32 rs)) := hs
  have HCC : Hid (((32 : UInt8) ∉ joinAll 32 rs ∧ rs.headD [] = joinAll 32 rs ∧ rs.tail = []) ∨ (∃ A B, joinAll 32 rs = A ++ 32 :: B ∧ (32 : UInt8) ∉ A ∧ rs.headD [] = A ∧ B = joinAll 32 rs.tail ∧ rs.tail ≠ [])) := HC
  clear h hE cf c1 c2 HC hs hn
  go_enter Tryz.func45, Tryz.ntmps45
  go_wp2_with fail
  refine (cutC s 32 w hsz HE.out).mono ?_
  rintro e w1 ⟨hr, hb1⟩
  rw [HS.out] at hr
  have R1 := HR.out.below hb1
  obtain ⟨d0, d1, d2, df⟩ := R1.cells
  have g0 := df 0
  have g1 := df 1
  rw [← HS2.out] at d0
  have HR1 : Hid (RdW w1 rb rs m f) := R1
  have B1 : Hid (Bar rb w w1) := Bar.ofBelow hb1
  clear R1 df d2 hb1
  rcases hr with ⟨hno, rfl⟩ | ⟨A, B, hAB, hA, rfl⟩
  · have FIN : Hid (s = str (rs.headD []) ∧ rs.tail = []) := by
      rcases HCC.out with h | ⟨A, B, h, _⟩
      · exact ⟨by rw [HS2.out, h.2.1], h.2.2⟩
      · exact absurd (by rw [h]; simp) hno
    clear hno
    go_wp2_with fail
    go_ret
    refine ⟨ret_str FIN.out.1, ?_, (B1.out.put _ _).put _ _⟩
    rw [FIN.out.2]
    exact HR1.out.turn (rs' := []) (m' := false)
  · have FIN : Hid (A = rs.headD [] ∧ B = joinAll 32 rs.tail ∧ moreOf rs.tail = true) := by
      rcases HCC.out with h | ⟨A', B', h1, h2, h3, h4, h5⟩
      · exact absurd (by rw [hAB]; simp) h.1
      · rw [h1] at hAB
        obtain ⟨e1, e2⟩ := cut_first h2 hA hAB
        exact ⟨by rw [← e1, h3], by rw [← e2, h4], by cases hq : rs.tail with | nil => exact absurd hq h5 | cons => rfl⟩
    clear hAB hA
    go_wp2_with fail
    go_ret
    refine ⟨ret_str (by rw [FIN.out.1]), ?_, (B1.out.put _ _).put _ _⟩
    rw [FIN.out.2.2, FIN.out.2.1]
    exact HR1.out.turn (rs' := rs.tail) (m' := true)

theorem join_tail_le : ∀ rs : List (List UInt8), (joinAll 32 rs.tail).length ≤ (joinAll 32 rs).length
  | [] => by simp
  | [x] => by simp [joinAll]
  | x :: y :: r => by simp [joinAll]; omega

theorem head_le : ∀ rs : List (List UInt8), (rs.headD []).length ≤ (joinAll 32 rs).length
  | [] => by simp [joinAll]
  | [x] => by simp [joinAll]
  | x :: y :: r => by simp [joinAll]

theorem env_bar {w0 w w' : World} {rb : Nat} (hE : Env w0) (hB : Below w0.heap.size w0 w) (hr : w0.heap.size ≤ rb) (h : Bar rb w w') : Env w' ∧ Below w0.heap.size w0 w' := by
  have := hB.trans (h.below hr hB.size)
  exact ⟨hE.keep this, this⟩

set_option maxHeartbeats 2000000 in
theorem numberC (rb : Nat) (lo hi : Int) (rs : List (List UInt8)) (m f : Bool) (w0 w : World) (h : RdW w rb rs m f) (hE : Env w0) (hB : Below w0.heap.size w0 w) (hrb : w0.heap.size ≤ rb) (hn : ∀ x ∈ rs, (32 : UInt8) ∉ x) (hl : (joinAll 32 rs).length ≤ 400) :
    Calls Tryz.prog 46 #[.pointer (some ⟨rb, 0, none⟩), .agg #[.int .i64 lo, .int .i64 hi]] w fun e w' => ∃ (n : Int) (f' m' : Bool) (rs' : List (List UInt8)), e = .returned (.int .i64 n) ∧ NumR Fits (!noSpan lo hi) rs n f' rs' ∧ RdW w' rb rs' m' (f || f') ∧ (noSpan lo hi = false → m' = moreOf rs') ∧ (noSpan lo hi = true → m' = m) ∧ Bar rb w w' := by
  have HR : Hid (RdW w rb rs m f) := h
  have HE : Hid (Env w0) := hE
  have HB : Hid (Below w0.heap.size w0 w) := hB
  have HN : Hid (∀ x ∈ rs, (32 : UInt8) ∉ x) := hn
  have CT := fun W => thereC lo hi W
  have hlt := h.lt
  clear h hE hB hn
  generalize noSpan lo hi = r at CT ⊢
  have HC : Hid (∀ W, Calls Tryz.prog 59 #[.agg #[.int .i64 lo, .int .i64 hi]] W fun e w' => e = .returned (.bool (!r)) ∧ Below W.heap.size W w') := CT
  clear CT
  cases r with
  | true =>
    go_enter Tryz.func46, Tryz.ntmps46
    go_wp2_with fail
    refine (HC.out _).mono ?_
    rintro e w1 ⟨rfl, hb1⟩
    have B1 : Hid (Below w.heap.size w w1) := ((Below.refl _ _).alloc (Nat.le_refl _) _).trans (hb1.mono (by simp))
    clear hb1
    go_wp2_with fail
    go_ret
    exact ⟨0, false, m, rs, rfl, .inr ⟨rfl, rfl, rfl, rfl⟩, by rw [Bool.or_false]; exact HR.out.below B1.out, fun h => (by cases h), fun _ => rfl, Bar.ofBelow B1.out⟩
  | false =>
    go_enter Tryz.func46, Tryz.ntmps46
    go_wp2_with fail
    refine (HC.out _).mono ?_
    rintro e w1 ⟨rfl, hb1⟩
    have B1 : Hid (Below w.heap.size w w1) := ((Below.refl _ _).alloc (Nat.le_refl _) _).trans (hb1.mono (by simp))
    clear hb1
    have R1 : Hid (RdW w1 rb rs m f) := HR.out.below B1.out
    have BB1 : Hid (Below w0.heap.size w0 w1) := HB.out.trans (B1.out.mono HB.out.size)
    go_wp2_with fail
    refine (wordC rb rs m f w1 R1.out (HE.out.keep BB1.out) HN.out hl).mono ?_
    rintro e w2 ⟨rfl, r2, b2⟩
    obtain ⟨e2, bb2⟩ := env_bar HE.out BB1.out hrb b2
    have R2 : Hid (RdW w2 rb rs.tail (moreOf rs.tail) f) := r2
    have E2 : Hid (Env w2) := e2
    have B2 : Hid (Bar rb w w2) := (Bar.ofBelow B1.out).trans b2
    obtain ⟨s, hs⟩ : ∃ s, s = str (rs.headD []) := ⟨_, rfl⟩
    have hsz : s.size ≤ 1000 := by rw [hs, str_size]; have := head_le rs; omega
    have HS : Hid (s.data.toList = rs.headD []) := by show _ = _; rw [hs, str_list]
    rw [← hs]
    clear hs r2 e2 b2 bb2
    go_wp2_with fail
    refine (readNumber s w2 hsz E2.out).mono ?_
    rintro e w3 ⟨r3, b3⟩
    rw [HS.out] at r3
    have R3 := R2.out.below b3
    obtain ⟨d0, d1, d2, df⟩ := R3.cells
    have g2 := df 2
    have HR3 : Hid (RdW w3 rb rs.tail (moreOf rs.tail) f) := R3
    have B3 : Hid (Bar rb w w3) := B2.out.trans (Bar.ofBelow b3)
    clear R3 d0 d1 df b3
    rcases r3 with ⟨n, hf, hi', rfl⟩ | ⟨hno, rfl⟩
    · have FIN : Hid (NumR Fits true rs n false rs.tail) := .inl ⟨rfl, rfl, .inl ⟨rfl, hf, hi'⟩⟩
      clear hf hi'
      go_wp2_with fail
      go_ret
      exact ⟨n, false, moreOf rs.tail, rs.tail, rfl, FIN.out, by rw [Bool.or_false]; exact HR3.out, fun _ => rfl, fun h => (by cases h), B3.out⟩
    · have FIN : Hid (NumR Fits true rs 0 true rs.tail) := .inl ⟨rfl, rfl, .inr ⟨rfl, rfl, hno⟩⟩
      clear hno
      go_wp2_with fail
      go_ret
      exact ⟨0, true, moreOf rs.tail, rs.tail, rfl, FIN.out, by rw [Bool.or_true]; exact HR3.out.fail, fun _ => rfl, fun h => (by cases h), B3.out.put _ _⟩
end Go.Proofs.YtbcnmmofccackaaGreatDoor.Own
