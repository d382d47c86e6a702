/-
  Own text: a slice of instructions that came in, opened; its numbers fit.
-/
import Derived.Test.YtgcencilgpilaaaQWf4
import Derived.ProofKit
import Derived.Deep.Slices
namespace Go.Proofs.Ytgcencilgpilaaa.Own
open Go.ChangeShapes Go.WideShapes Go.ChangeAt Go.RowKit

theorem add_eq4 (b off j : Nat) : (⟨b, off, none⟩ : Addr).add j = ⟨b, off + j, none⟩ := by unfold Addr.add; split <;> simp_all

theorem fits_of4 {z : Int} (h : (Lit.int .i64 z).wf = true) : Fits z := by
  simp [Lit.wf, IntKind.min, IntKind.max, IntKind.signed, IntKind.bits] at h
  exact ⟨by omega, by omega⟩

theorem int_cell {H : Type} {enc : TypeId × Value → H} {W : World} {n : Nat} {v : Value} {y : DataW H × List MemPlace} (t : DataW.trod enc Try.prog W 0 (fun _ => true) true n 3 [v] = some y) : ∃ z, v = .int .i64 z ∧ Fits z := by
  obtain ⟨z, e, _, f⟩ := DataW.trod_int Try.underlying3 t
  simp at e
  exact ⟨z, e, fits_of4 f⟩

theorem cellsIns : Try.prog.cellsOf 165 = 4 := by kernel_rfl
theorem cellsInt : Try.prog.cellsOf 3 = 1 := by kernel_rfl

set_option maxRecDepth 100000 in
theorem openIns {H : Type} {enc : TypeId × Value → H} {W : World} {fuel : Nat} {a : Option Addr} {len cap : Nat} {x : DataW H × List MemPlace}
    (hf : DataW.trod enc Try.prog W 0 (fun _ => true) true fuel 127 [.slice a len cap] = some x) : ∃ xs : List Q4, xs.length = len ∧ Sl4 W a xs ∧ xs.length ≤ maxLen ∧ Wf4 xs := by
  rcases Deep.open_slice Try.underlying127 hf with ⟨hcs, _⟩ | ⟨ad, l, c, m, n, D, Pl, hcs, _, hl, hm, hmm, _, hx⟩
  · simp at hcs
    obtain ⟨rfl, rfl, rfl⟩ := hcs
    exact ⟨[], rfl, .inl rfl, by simp, fun k hk => by simp at hk⟩
  · simp at hcs
    obtain ⟨rfl, rfl, rfl⟩ := hcs
    have hmm' : m = cap := by simpa using hmm
    subst hmm'
    have ex : ∀ i, i < m → ∃ p : Q4, W.cell? (ad.add (i * 4)) = some (.int .i64 p.1) ∧ W.cell? (ad.add (i * 4 + 1)) = some (.int .i64 p.2.1) ∧ W.cell? (ad.add (i * 4 + 2)) = some (.int .i64 p.2.2.1) ∧ W.cell? (ad.add (i * 4 + 3)) = some (.int .i64 p.2.2.2) ∧ FitsQ p := by
      intro i hi
      obtain ⟨cs', h1, h2⟩ := hx i hi
      rw [cellsIns] at h1
      obtain ⟨_, hlen, hcell⟩ := World.cells?_some h1
      obtain ⟨xs, k, hk, hxy, _, hxl, hfd⟩ := DataW.trod_struct Try.underlying165 h2
      match xs, hxl, cs', hlen with
      | [y0, y1, y2, y3], _, [v0, v1, v2, v3], _ =>
        have g0 := hfd 0 _ rfl
        have g1 := hfd 1 _ rfl
        have g2 := hfd 2 _ rfl
        have g3 := hfd 3 _ rfl
        simp [cellsInt] at g0 g1 g2 g3
        obtain ⟨z0, rfl, f0⟩ := int_cell g0
        obtain ⟨z1, rfl, f1⟩ := int_cell g1
        obtain ⟨z2, rfl, f2⟩ := int_cell g2
        obtain ⟨z3, rfl, f3⟩ := int_cell g3
        have e0 := hcell 0 (by omega)
        have e1 := hcell 1 (by omega)
        have e2 := hcell 2 (by omega)
        have e3 := hcell 3 (by omega)
        rw [Deep.add_add] at e0 e1 e2 e3
        exact ⟨(z0, z1, z2, z3), by simpa using e0, by simpa using e1, by simpa using e2, by simpa using e3, f0, f1, f2, f3⟩
    obtain ⟨f, hf2⟩ := Deep.choose_lt ex
    refine ⟨(List.range len).map f, by simp, ?_, by simp; omega, ?_⟩
    case' refine_2 =>
      intro i hi
      have hi' : i < len := by simpa using hi
      have e : ((List.range len).map f).getD i q0 = f i := by simp [List.getD, hi']
      rw [e]; exact (hf2 i (by omega)).2.2.2.2
    by_cases h0 : len = 0
    · left; simp [h0]
    right
    obtain ⟨b, off, spot⟩ := ad
    have c0 := (hf2 0 (by omega)).1
    have hspot : spot = none := by simpa [Addr.add] using World.cell?_spot c0
    subst hspot
    refine ⟨b, off, rfl, ?_, ?_⟩
    · have : W.cell? ⟨b, off, none⟩ = some (.int .i64 (f 0).1) := by simpa [Addr.add] using c0
      simp only [World.cell?] at this
      cases hq : W.heap[b]? with
      | none => simp [hq] at this
      | some o => exact (Array.getElem?_eq_some_iff.1 hq).1
    · intro i hi
      have hi' : i < len := by simpa using hi
      have := hf2 i (by omega)
      rw [add_eq4, add_eq4, add_eq4, add_eq4] at this
      have e : ((List.range len).map f).getD i q0 = f i := by simp [List.getD, hi']
      rw [e]
      exact ⟨this.1, this.2.1, this.2.2.1, this.2.2.2.1⟩
end Go.Proofs.Ytgcencilgpilaaa.Own
