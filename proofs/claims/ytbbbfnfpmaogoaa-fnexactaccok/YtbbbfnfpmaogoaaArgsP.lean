/-
  Own text, by program out of Args.lean: the same over []Put.
-/
import Derived.Test.YtbbbfnfpmaogoaaBase
import Derived.Test.YtbbbfnfpmaogoaaArgs4I
import Derived.ProofKit
import Derived.Deep.SlicePairs
namespace Go.Proofs.Ytbbbfnfpmaogoaa.Own
open Go.ChangeShapes Go.WideShapes Go.ChangeAt Go.RowKit


theorem openPuts {H : Type} {enc : TypeId × Value → H} {W : World} {fuel : Nat} {a : Option Addr} {len cap : Nat} {x : DataW H × List MemPlace}
    (hf : DataW.trod enc Try.prog W 0 (fun _ => true) true fuel 56 [.slice a len cap] = some x) : ∃ xs : List (Int × Int), xs.length = len ∧ Sl W a xs ∧ xs.length ≤ maxLen := by
  rcases Deep.open_slice_pairs Try.underlying56 Try.underlying175 (by kernel_rfl) rfl rfl (by kernel_rfl) (by kernel_rfl) hf with ⟨hcs, _⟩ | ⟨ad, l, c, m, n, V0, V1, D0, D1, P0, P1, hcs, _, hl, hm, hmm, _, hx⟩
  · simp at hcs
    obtain ⟨rfl, rfl, rfl⟩ := hcs
    exact ⟨[], rfl, .inl rfl, by simp⟩
  · simp at hcs
    obtain ⟨rfl, rfl, rfl⟩ := hcs
    have hmm' : m = cap := by simpa using hmm
    subst hmm'
    have ex : ∀ i, i < m → ∃ p : Int × Int, W.cell? (ad.add (i * 2)) = some (.int .i64 p.1) ∧ W.cell? (ad.add (i * 2 + 1)) = some (.int .i64 p.2) := by
      intro i hi
      obtain ⟨c0, c1, t0, t1⟩ := hx i hi
      obtain ⟨z0, e0, _, _⟩ := DataW.trod_int Try.underlying3 t0
      obtain ⟨z1, e1, _, _⟩ := DataW.trod_int Try.underlying3 t1
      simp at e0 e1
      exact ⟨(z0, z1), by rw [c0, e0], by rw [c1, e1]⟩
    obtain ⟨f, hf2⟩ := Deep.choose_lt ex
    refine ⟨(List.range len).map f, by simp, ?_, by simp; omega⟩
    by_cases h0 : len = 0
    · left; simp [h0]
    right
    obtain ⟨b, off, spot⟩ := ad
    have c0 := (hf2 0 (by omega)).1
    have hspot : spot = none := by simpa [Addr.add] using World.cell?_spot c0
    subst hspot
    refine ⟨b, off, rfl, ?_, ?_⟩
    · have : W.cell? ⟨b, off, none⟩ = some (.int .i64 (f 0).1) := by simpa [Addr.add] using c0
      simp only [World.cell?] at this
      cases hq : W.heap[b]? with
      | none => simp [hq] at this
      | some o => exact (Array.getElem?_eq_some_iff.1 hq).1
    · intro i hi
      have hi' : i < len := by simpa using hi
      have := hf2 i (by omega)
      rw [add_eq4, add_eq4] at this
      have e : ((List.range len).map f).getD i (0, 0) = f i := by simp [List.getD, hi']
      rw [e]
      exact this

end Go.Proofs.Ytbbbfnfpmaogoaa.Own
