/-
  Own text: a run that came in, opened.
-/
import Derived.Test.YtbbbfnfpmaogoaaArgsR
import Derived.Test.YtbbbfnfpmaogoaaArgsP
namespace Go.Proofs.Ytbbbfnfpmaogoaa.Own
open Go.ChangeShapes Go.WideShapes Go.ChangeAt Go.RowKit
set_option linter.unusedVariables false

theorem cellsRun : Try.prog.cellsOf 58 = 4 := by kernel_rfl
theorem cellsReads : Try.prog.cellsOf 55 = 1 := by kernel_rfl
theorem cellsPuts : Try.prog.cellsOf 56 = 1 := by kernel_rfl

theorem slice_cell {H : Type} {enc : TypeId × Value → H} {W : World} {n : Nat} {t e : TypeId} (ht : Try.prog.underlying t = some (.slice e)) {v : Value} {y : DataW H × List MemPlace} (h : DataW.trod enc Try.prog W 0 (fun _ => true) true n t [v] = some y) : ∃ a l c, v = .slice a l c ∧ l ≤ c ∧ c ≤ maxLen := by
  rcases Deep.open_slice ht h with ⟨hcs, _⟩ | ⟨ad, l, c, m, n, D, Pl, hcs, _, hl, hm, hmm, _, hx⟩
  · simp at hcs
    exact ⟨none, 0, 0, hcs, Nat.le_refl _, by unfold maxLen; omega⟩
  · simp at hcs
    exact ⟨_, _, _, hcs, hl, hm⟩

set_option maxRecDepth 100000 in
theorem openRun {H : Type} {enc : TypeId × Value → H} {W : World} {fuel : Nat} {cs : Array Value} {x : DataW H × List MemPlace}
    (hf : DataW.trod enc Try.prog W 0 (fun _ => true) true fuel 58 cs.toList = some x) :
    ∃ (a1 a2 : Option Addr) (c1 c2 : Nat) (xs ys : List (Int × Int)) (v k : Int), cs = #[.slice a1 xs.length c1, .slice a2 ys.length c2, .int .i64 v, .int .i64 k] ∧ Sl W a1 xs ∧ Sl W a2 ys ∧ xs.length ≤ c1 ∧ ys.length ≤ c2 ∧ c1 ≤ maxLen ∧ c2 ≤ maxLen ∧ Fits v ∧ Fits k := by
  obtain ⟨l⟩ := cs
  obtain ⟨xs, n, hk, hxy, hl, hxl, hfd⟩ := DataW.trod_struct Try.underlying58 hf
  rw [cellsRun] at hl
  match xs, hxl, l, hl with
  | [y0, y1, y2, y3], _, [v0, v1, v2, v3], _ =>
    have g0 := hfd 0 _ rfl
    have g1 := hfd 1 _ rfl
    have g2 := hfd 2 _ rfl
    have g3 := hfd 3 _ rfl
    simp [cellsInt, cellsReads, cellsPuts] at g0 g1 g2 g3
    obtain ⟨z2, rfl, f2⟩ := int_cell g2
    obtain ⟨z3, rfl, f3⟩ := int_cell g3
    obtain ⟨a1, l1, c1, rfl, hl1, hm1⟩ := slice_cell Try.underlying55 g0
    obtain ⟨a2, l2, c2, rfl, hl2, hm2⟩ := slice_cell Try.underlying56 g1
    obtain ⟨xs, rfl, s1, _⟩ := openReads g0
    obtain ⟨ys, rfl, s2, _⟩ := openPuts g1
    exact ⟨a1, a2, c1, c2, xs, ys, z2, z3, rfl, s1, s2, hl1, hl2, hm1, hm2, f2, f3⟩
end Go.Proofs.Ytbbbfnfpmaogoaa.Own
