/-
  Own text: an acceptor that came in, opened.
-/
import Derived.Test.YtbbbfnfpmaogoaaPk10
namespace Go.Proofs.Ytbbbfnfpmaogoaa.Own
open Go.ChangeShapes Go.WideShapes Go.ChangeAt Go.RowKit
set_option linter.unusedVariables false

theorem cellsAcc : Try.prog.cellsOf 44 = 2 := by kernel_rfl

set_option maxRecDepth 100000 in
theorem openAcc {H : Type} {enc : TypeId × Value → H} {W : World} {fuel : Nat} {cs : Array Value} {x : DataW H × List MemPlace}
    (hf : DataW.trod enc Try.prog W 0 (fun _ => true) true fuel 44 cs.toList = some x) :
    ∃ (m : Int) (a : Option Addr) (c : Nat) (vs : List VM), cs = #[.int .i64 m, .slice a vs.length c] ∧ SlV W a vs ∧ vs.length ≤ maxLen ∧ (∀ i, i < vs.length → (vs.getD i v0).b.xs.length ≤ maxLen ∧ (vs.getD i v0).b.ys.length ≤ maxLen) ∧ Fits m := by
  obtain ⟨l⟩ := cs
  obtain ⟨xs, n, hk, hxy, hl, hxl, hfd⟩ := DataW.trod_struct Try.underlying44 hf
  rw [cellsAcc] at hl
  match xs, hxl, l, hl with
  | [y0, y1], _, [u0, u1], _ =>
    have g0 := hfd 0 _ rfl
    have g1 := hfd 1 _ rfl
    simp [cellsInt, cellsVotes] at g0 g1
    obtain ⟨z, rfl, fz⟩ := int_cell g0
    obtain ⟨a1, l1, c1, rfl, hl1, hm1⟩ := slice_cell Try.underlying42 g1
    obtain ⟨vs, rfl, s1, m1, m2⟩ := openVotes g1
    exact ⟨z, a1, c1, vs, rfl, s1, m1, m2, fz⟩
end Go.Proofs.Ytbbbfnfpmaogoaa.Own
