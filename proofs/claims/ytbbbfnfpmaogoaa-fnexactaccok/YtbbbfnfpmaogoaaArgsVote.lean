/-
  Own text: votes that came in, opened.
-/
import Derived.Test.YtbbbfnfpmaogoaaArgsEnt
import Derived.Test.YtbbbfnfpmaogoaaVoteMem
import Derived.Test.YtbbbfnfpmaogoaaArgs4I
namespace Go.Proofs.Ytbbbfnfpmaogoaa.Own
open Go.ChangeShapes Go.WideShapes Go.ChangeAt Go.RowKit
set_option linter.unusedVariables false

theorem cellsVote : Try.prog.cellsOf 122 = 8 := by kernel_rfl
theorem cellsVotes : Try.prog.cellsOf 42 = 1 := by kernel_rfl

set_option maxRecDepth 100000 in
theorem openVotes {H : Type} {enc : TypeId × Value → H} {W : World} {fuel : Nat} {a : Option Addr} {len cap : Nat} {x : DataW H × List MemPlace}
    (hf : DataW.trod enc Try.prog W 0 (fun _ => true) true fuel 42 [.slice a len cap] = some x) : ∃ vs : List VM, vs.length = len ∧ SlV W a vs ∧ vs.length ≤ maxLen ∧ ∀ i, i < vs.length → (vs.getD i v0).b.xs.length ≤ maxLen ∧ (vs.getD i v0).b.ys.length ≤ maxLen := by
  rcases Deep.open_slice Try.underlying42 hf with ⟨hcs, _⟩ | ⟨ad, l, c, m, n, D, Pl, hcs, _, hl, hm, hmm, _, hx⟩
  · simp at hcs
    obtain ⟨rfl, rfl, rfl⟩ := hcs
    exact ⟨[], rfl, .inl rfl, by simp, fun k hk => by simp at hk⟩
  · simp at hcs
    obtain ⟨rfl, rfl, rfl⟩ := hcs
    have hmm' : m = cap := by simpa using hmm
    subst hmm'
    have ex : ∀ i, i < m → ∃ p : VM, ((W.cell? (ad.add (i * 8)) = some (.int .i64 p.bal) ∧ W.cell? (ad.add (i * 8 + 1)) = some (.bool p.b.n) ∧ W.cell? (ad.add (i * 8 + 2)) = some (.int .i64 p.b.p) ∧ W.cell? (ad.add (i * 8 + 3)) = some (.int .i64 p.b.q) ∧ W.cell? (ad.add (i * 8 + 4)) = some (.slice p.a1 p.b.xs.length p.c1) ∧ W.cell? (ad.add (i * 8 + 5)) = some (.slice p.a2 p.b.ys.length p.c2) ∧ W.cell? (ad.add (i * 8 + 6)) = some (.int .i64 p.b.v) ∧ W.cell? (ad.add (i * 8 + 7)) = some (.int .i64 p.b.k)) ∧ Sl W p.a1 p.b.xs ∧ Sl W p.a2 p.b.ys) ∧ p.b.xs.length ≤ maxLen ∧ p.b.ys.length ≤ maxLen := by
      intro i hi
      obtain ⟨cs', h1, h2⟩ := hx i hi
      rw [cellsVote] at h1
      obtain ⟨_, hlen, hcell⟩ := World.cells?_some h1
      obtain ⟨xs, k, hk, hxy, _, hxl, hfd⟩ := DataW.trod_struct Try.underlying122 h2
      match xs, hxl, cs', hlen with
      | [y0, y1], _, [u0, u1, u2, u3, u4, u5, u6, u7], _ =>
        have g0 := hfd 0 _ rfl
        have g1 := hfd 1 _ rfl
        simp [cellsInt, cellsEntry] at g0 g1
        obtain ⟨z0, rfl, f0⟩ := int_cell g0
        obtain ⟨en, ep, eq, a1, a2, c1, c2, xs, ys, v, kk, hcs, s1, s2, l1, l2, m1, m2, _⟩ := openEntry (cs := #[u1, u2, u3, u4, u5, u6, u7]) g1
        simp at hcs
        obtain ⟨rfl, rfl, rfl, rfl, rfl, rfl, rfl⟩ := hcs
        have e0 := hcell 0 (by omega)
        have e1 := hcell 1 (by omega)
        have e2 := hcell 2 (by omega)
        have e3 := hcell 3 (by omega)
        have e4 := hcell 4 (by omega)
        have e5 := hcell 5 (by omega)
        have e6 := hcell 6 (by omega)
        have e7 := hcell 7 (by omega)
        rw [Deep.add_add] at e0 e1 e2 e3 e4 e5 e6 e7
        exact ⟨⟨z0, ⟨en, ep, eq, xs, ys, v, kk⟩, a1, c1, a2, c2⟩, ⟨⟨by simpa using e0, by simpa using e1, by simpa using e2, by simpa using e3, by simpa using e4, by simpa using e5, by simpa using e6, by simpa using e7⟩, s1, s2⟩, Nat.le_trans l1 m1, Nat.le_trans l2 m2⟩
    obtain ⟨f, hf2⟩ := Deep.choose_lt ex
    have ge : ∀ i, i < len → ((List.range len).map f).getD i v0 = f i := fun i hi => by simp [List.getD, hi]
    refine ⟨(List.range len).map f, by simp, ?_, by simp; omega, fun i hi => ?_⟩
    case' refine_2 =>
      have hi' : i < len := by simpa using hi
      rw [ge i hi']; exact (hf2 i (by omega)).2
    by_cases h0 : len = 0
    · left; simp [h0]
    right
    obtain ⟨b, off, spot⟩ := ad
    have c0 := (hf2 0 (by omega)).1.1.1
    have hspot : spot = none := by simpa [Addr.add] using World.cell?_spot c0
    subst hspot
    refine ⟨b, off, rfl, ?_, ?_⟩
    · have : W.cell? ⟨b, off, none⟩ = some (.int .i64 (f 0).bal) := by simpa [Addr.add] using c0
      simp only [World.cell?] at this
      cases hq : W.heap[b]? with
      | none => simp [hq] at this
      | some o => exact (Array.getElem?_eq_some_iff.1 hq).1
    · intro i hi
      have hi' : i < len := by simpa using hi
      have := (hf2 i (by omega)).1
      rw [add_eq4, add_eq4, add_eq4, add_eq4, add_eq4, add_eq4, add_eq4, add_eq4] at this
      rw [ge i hi']
      exact this

end Go.Proofs.Ytbbbfnfpmaogoaa.Own
