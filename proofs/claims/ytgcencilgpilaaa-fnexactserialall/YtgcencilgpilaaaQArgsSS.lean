/-
  Own text: a slice of programs that came in, opened.
-/
import Derived.Test.YtgcencilgpilaaaQArgs4
import Derived.Test.YtgcencilgpilaaaQSSOps
namespace Go.Proofs.Ytgcencilgpilaaa.Own
open Go.ChangeShapes Go.WideShapes Go.ChangeAt Go.RowKit

theorem cellsInsS : Try.prog.cellsOf 127 = 1 := by kernel_rfl

set_option maxRecDepth 100000 in
theorem openInsSS {H : Type} {enc : TypeId × Value → H} {W : World} {fuel : Nat} {a : Option Addr} {len cap : Nat} {x : DataW H × List MemPlace}
    (hf : DataW.trod enc Try.prog W 0 (fun _ => true) true fuel 57 [.slice a len cap] = some x) : ∃ ps : List PS, ps.length = len ∧ SlQ W a ps ∧ ps.length ≤ maxLen ∧ ∀ i, i < ps.length → (ps.getD i p0).2.2.length ≤ maxLen := by
  rcases Deep.open_slice Try.underlying57 hf with ⟨hcs, _⟩ | ⟨ad, l, c, m, n, D, Pl, hcs, _, hl, hm, hmm, _, hx⟩
  · simp at hcs
    obtain ⟨rfl, rfl, rfl⟩ := hcs
    exact ⟨[], rfl, .inl rfl, by simp, fun k hk => by simp at hk⟩
  · simp at hcs
    obtain ⟨rfl, rfl, rfl⟩ := hcs
    have hmm' : m = cap := by simpa using hmm
    subst hmm'
    have ex : ∀ i, i < m → ∃ p : PS, W.cell? (ad.add i) = some (psV p) ∧ Sl4 W p.1 p.2.2 ∧ p.2.2.length ≤ maxLen := by
      intro i hi
      obtain ⟨cs', h1, h2⟩ := hx i hi
      rw [cellsInsS] at h1
      obtain ⟨_, hlen, hcell⟩ := World.cells?_some h1
      have shape : ∃ a1 l1 c1, cs' = [.slice a1 l1 c1] := by
        rcases Deep.open_slice Try.underlying127 h2 with ⟨h, _⟩ | ⟨ad', l', c', _, _, _, _, h, _⟩
        · exact ⟨_, _, _, h⟩
        · exact ⟨_, _, _, h⟩
      obtain ⟨a1, l1, c1, rfl⟩ := shape
      obtain ⟨xs, rfl, hs, hm', _⟩ := openIns h2
      have e0 := hcell 0 (by omega)
      rw [Deep.add_add] at e0
      exact ⟨(a1, c1, xs), by simpa [psV] using e0, hs, hm'⟩
    obtain ⟨f, hf2⟩ := Deep.choose_lt ex
    have ge : ∀ i, i < len → ((List.range len).map f).getD i p0 = f i := fun i hi => by simp [List.getD, hi]
    refine ⟨(List.range len).map f, by simp, ?_, by simp; omega, fun i hi => ?_⟩
    case' refine_2 =>
      have hi' : i < len := by simpa using hi
      rw [ge i hi']; exact (hf2 i (by omega)).2.2
    by_cases h0 : len = 0
    · left; simp [h0]
    right
    obtain ⟨b, off, spot⟩ := ad
    have c0 := (hf2 0 (by omega)).1
    have hspot : spot = none := by simpa [Addr.add] using World.cell?_spot c0
    subst hspot
    refine ⟨b, off, rfl, ?_, ?_⟩
    · have : W.cell? ⟨b, off, none⟩ = some (psV (f 0)) := by simpa [Addr.add] using c0
      simp only [World.cell?] at this
      cases hq : W.heap[b]? with
      | none => simp [hq] at this
      | some o => exact (Array.getElem?_eq_some_iff.1 hq).1
    · intro i hi
      have hi' : i < len := by simpa using hi
      have := hf2 i (by omega)
      rw [add_eq4] at this
      rw [ge i hi']
      exact ⟨this.1, this.2.1⟩
end Go.Proofs.Ytgcencilgpilaaa.Own
