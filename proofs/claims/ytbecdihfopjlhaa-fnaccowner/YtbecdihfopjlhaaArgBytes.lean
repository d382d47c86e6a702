/-
  Own text: a slice of bytes that came in, opened.
-/
import Derived.Test.YtbecdihfopjlhaaPick
import Derived.ProofKit
namespace Go.Proofs.Ytbecdihfopjlhaa.Own
open Go.ChangeShapes Go.WideShapes Go.ChangeAt Go.RowKit

theorem addr_add (b off j : Nat) : (⟨b, off, none⟩ : Addr).add j = ⟨b, off + j, none⟩ := by unfold Addr.add; split <;> simp_all

theorem openBytes {H : Type} {enc : TypeId × Value → H} {W : World} {fuel : Nat} {a : Option Addr} {len cap : Nat} {x : DataW H × List MemPlace}
    (hf : DataW.trod enc Try.prog W 0 (fun _ => true) true fuel 22 [.slice a len cap] = some x) : Bytes W W.heap.size a len ∧ len ≤ cap ∧ cap ≤ maxLen := by
  rcases open_ints Try.underlying22 Try.underlying5 (by kernel_rfl) hf with ⟨hcs, _⟩ | ⟨ad, l, c, zs, hcs, _, hl, hm, hz, _, hcell, hwz⟩
  · simp at hcs
    obtain ⟨rfl, rfl, rfl⟩ := hcs
    exact ⟨.inl rfl, Nat.le_refl _, by unfold maxLen; omega⟩
  · simp at hcs
    obtain ⟨rfl, rfl, rfl⟩ := hcs
    refine ⟨?_, hl, hm⟩
    by_cases h0 : len = 0
    · exact .inl h0
    right
    have hz' : zs.length = cap := by simpa using hz
    obtain ⟨b, off, spot⟩ := ad
    have c0 := hcell 0 (by omega)
    have hspot : spot = none := by simpa [Addr.add] using World.cell?_spot c0
    subst hspot
    refine ⟨b, off, rfl, ?_, ?_⟩
    · rw [addr_add] at c0
      simp only [World.cell?] at c0
      cases hq : W.heap[b]? with
      | none => simp [hq] at c0
      | some o => exact (Array.getElem?_eq_some_iff.1 hq).1
    · intro i hi
      have hc := hcell i (by omega)
      rw [addr_add] at hc
      have hw := hwz (zs.getD i 0) (by simp [List.getD, show i < zs.length by omega])
      have hb : 0 ≤ zs.getD i 0 ∧ zs.getD i 0 ≤ 255 := by
        simpa [Lit.wf, IntKind.min, IntKind.max, IntKind.signed, IntKind.bits] using hw
      exact ⟨(zs.getD i 0).toNat, by omega, by rw [hc]; congr 2; omega⟩
end Go.Proofs.Ytbecdihfopjlhaa.Own
