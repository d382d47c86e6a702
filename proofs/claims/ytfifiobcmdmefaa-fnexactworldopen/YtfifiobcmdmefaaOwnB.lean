/-
  Own text: a list of two numbers each that a call made, or the empty one. Nothing of the program.
-/
import Derived.Test.YtfifiobcmdmefaaBase
namespace Go.Proofs.Ytfifiobcmdmefaa.Own
open Go.RowKit

/-- A list that a call made: from block B on, or empty. -/
def OwnB (w : World) (B : Nat) (a : Option Addr) (xs : List (Int × Int)) : Prop := xs = [] ∨ ∃ g, a = some ⟨g, 0, none⟩ ∧ B ≤ g ∧ BoxAt w g 0 xs ∧ (∀ o, w.frozen? ⟨g, o, none⟩ = false)
theorem OwnB.sl {w : World} {B : Nat} {a : Option Addr} {xs : List (Int × Int)} (h : OwnB w B a xs) : Sl w a xs := by
  rcases h with h | ⟨g, rfl, _, h, _⟩
  · exact .inl h
  · exact .inr ⟨g, 0, rfl, h⟩
theorem OwnB.below {w w' : World} {B : Nat} {a : Option Addr} {xs : List (Int × Int)} (h : OwnB w B a xs) (hb : Below w.heap.size w w') : OwnB w' B a xs := by
  rcases h with h | ⟨g, rfl, hB, h, hf⟩
  · exact .inl h
  · exact .inr ⟨g, rfl, hB, h.below hb, fun o => by rw [hb.frozen (p := ⟨g, o, none⟩) h.1]; exact hf o⟩
theorem OwnB.weaken {w : World} {B B' : Nat} {a : Option Addr} {xs : List (Int × Int)} (h : OwnB w B a xs) (hb : B' ≤ B) : OwnB w B' a xs := by
  rcases h with h | ⟨g, rfl, hB, h, hf⟩
  · exact .inl h
  · exact .inr ⟨g, rfl, Nat.le_trans hb hB, h, hf⟩
/-- Nothing but the list's own block has turned. -/
def OnlyB (a : Option Addr) (xs : List (Int × Int)) (w w' : World) : Prop := (xs = [] ∧ w' = w) ∨ ∃ g, xs ≠ [] ∧ a = some ⟨g, 0, none⟩ ∧ Only g w w'
theorem OnlyB.below {a : Option Addr} {xs : List (Int × Int)} {w w' : World} {B : Nat} (h : OnlyB a xs w w') (hB : ∀ g, xs ≠ [] → a = some ⟨g, 0, none⟩ → B ≤ g) : Below B w w' := by
  rcases h with ⟨_, rfl⟩ | ⟨g, hne, e, h⟩
  · exact Below.refl _ _
  · exact h.below (hB g hne e)
theorem OwnB.from {w : World} {B : Nat} {a : Option Addr} {xs : List (Int × Int)} (h : OwnB w B a xs) : ∀ g, xs ≠ [] → a = some ⟨g, 0, none⟩ → B ≤ g := by
  intro g hne e
  rcases h with h | ⟨g', e', hB, _⟩
  · exact absurd h hne
  · rw [e] at e'; injection e' with e'; injection e' with e1; omega
/-- Two lists that lie in different blocks. -/
def Apart (a b : Option Addr) (xs ys : List (Int × Int)) : Prop := xs = [] ∨ ys = [] ∨ ∀ g g', a = some ⟨g, 0, none⟩ → b = some ⟨g', 0, none⟩ → g ≠ g'
theorem OwnB.onlyB {w w' : World} {B : Nat} {a b : Option Addr} {xs ys : List (Int × Int)} (h : OwnB w B a xs) (ho : OnlyB b ys w w') (hap : Apart a b xs ys) : OwnB w' B a xs := by
  rcases ho with ⟨_, rfl⟩ | ⟨g, hne, rfl, ho⟩
  · exact h
  · rcases h with h | ⟨g', rfl, hB, h, hf⟩
    · exact .inl h
    · rcases hap with h0 | h0 | hap
      · exact .inl h0
      · exact absurd h0 hne
      · have hgg := hap g' g rfl rfl
        refine .inr ⟨g', rfl, hB, h.only ho hgg, fun o => ?_⟩
        rw [World.frozen?_of_block (w := w) (a := ⟨g', o, none⟩) (ho.block g' hgg)]; exact hf o
theorem Sl.onlyB {w w' : World} {a b : Option Addr} {xs ys : List (Int × Int)} {B : Nat} (h : Sl w a xs) (ho : OnlyB b ys w w') (hb : ∀ g, ys ≠ [] → b = some ⟨g, 0, none⟩ → B ≤ g) (ha : ∀ x, a = some x → x.block < B) : Sl w' a xs := by
  rcases ho with ⟨_, rfl⟩ | ⟨g, hne, rfl, ho⟩
  · exact h
  · rcases h with h | ⟨b, off, rfl, h⟩
    · exact .inl h
    · exact .inr ⟨b, off, rfl, h.only ho (by have := hb g hne rfl; have := ha _ rfl; simp at this; omega)⟩
theorem marks_nil (k : Int) : marks k 0 = [] := rfl
theorem nil_of {xs : List (Int × Int)} (h : xs.length = 0) : xs = [] := List.eq_nil_of_length_eq_zero h
end Go.Proofs.Ytfifiobcmdmefaa.Own
