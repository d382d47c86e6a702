/-
  Own text: a message that came in, opened.
-/
import Derived.Test.YtmcpefikmcaemaaArgsVote
import Derived.Test.YtmcpefikmcaemaaMsgX
namespace Go.Proofs.Ytmcpefikmcaemaa.Own
open Go.ChangeShapes Go.WideShapes Go.ChangeAt Go.RowKit
set_option linter.unusedVariables false

theorem cellsMsg : Try.prog.cellsOf 32 = 13 := by kernel_rfl

set_option maxRecDepth 100000 in
theorem openMsg {H : Type} {enc : TypeId × Value → H} {W : World} {fuel : Nat} {cs : Array Value} {x : DataW H × List MemPlace}
    (hf : DataW.trod enc Try.prog W 0 (fun _ => true) true fuel 32 cs.toList = some x) :
    ∃ m : MM, cs = #[.int .i64 m.kind, .int .i64 m.src, .int .i64 m.dst, .int .i64 m.bal, .int .i64 m.slot, .bool m.b.n, .int .i64 m.b.p, .int .i64 m.b.q, .slice m.a1 m.b.xs.length m.c1, .slice m.a2 m.b.ys.length m.c2, .int .i64 m.b.v, .int .i64 m.b.k, .slice m.a m.vs.length m.c] ∧ InM W m ∧ Fits m.kind ∧ Fits m.src ∧ Fits m.dst ∧ Fits m.bal ∧ Fits m.slot := by
  obtain ⟨l⟩ := cs
  obtain ⟨xs, n, hk, hxy, hl, hxl, hfd⟩ := DataW.trod_struct Try.underlying32 hf
  rw [cellsMsg] at hl
  match xs, hxl, l, hl with
  | [y0, y1, y2, y3, y4, y5, y6], _, [u0, u1, u2, u3, u4, u5, u6, u7, u8, u9, u10, u11, u12], _ =>
    have g0 := hfd 0 _ rfl
    have g1 := hfd 1 _ rfl
    have g2 := hfd 2 _ rfl
    have g3 := hfd 3 _ rfl
    have g4 := hfd 4 _ rfl
    have g5 := hfd 5 _ rfl
    have g6 := hfd 6 _ rfl
    simp [cellsInt, cellsEntry, cellsVotes] at g0 g1 g2 g3 g4 g5 g6
    obtain ⟨z0, rfl, f0⟩ := int_cell g0
    obtain ⟨z1, rfl, f1⟩ := int_cell g1
    obtain ⟨z2, rfl, f2⟩ := int_cell g2
    obtain ⟨z3, rfl, f3⟩ := int_cell g3
    obtain ⟨z4, rfl, f4⟩ := int_cell g4
    obtain ⟨en, ep, eq, a1, a2, c1, c2, xs, ys, v, kk, hcs, s1, s2, l1, l2, m1, m2, _⟩ := openEntry (cs := #[u5, u6, u7, u8, u9, u10, u11]) g5
    simp at hcs
    obtain ⟨rfl, rfl, rfl, rfl, rfl, rfl, rfl⟩ := hcs
    obtain ⟨a, n, c, rfl, hl1, hm1⟩ := slice_cell Try.underlying30 g6
    obtain ⟨vs, rfl, t1, t2, t3⟩ := openVotes g6
    exact ⟨⟨z0, z1, z2, z3, z4, ⟨en, ep, eq, xs, ys, v, kk⟩, a1, c1, a2, c2, a, c, vs⟩, rfl, ⟨⟨s1, s2, t1⟩, Nat.le_trans l1 m1, Nat.le_trans l2 m2, t2, t3⟩, f0, f1, f2, f3, f4⟩
end Go.Proofs.Ytmcpefikmcaemaa.Own
