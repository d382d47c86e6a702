/-
  Own text: a list of four numbers each that a call made, or the empty one. Nothing of the program.
-/
import Derived.Test.YtgcencilgpilaaaPk1
import Derived.Test.YtgcencilgpilaaaPk3
namespace Go.Proofs.Ytgcencilgpilaaa.Own
open Go.RowKit
set_option linter.unusedVariables false

/-- A list that a call made: from block B on, or empty. -/
def OwnD (w : World) (B : Nat) (a : Option Addr) (xs : List Q4) : Prop := xs = [] ∨ ∃ g, a = some ⟨g, 0, none⟩ ∧ B ≤ g ∧ At4 w g 0 xs ∧ (∀ o, w.frozen? ⟨g, o, none⟩ = false)
theorem OwnD.sl {w : World} {B : Nat} {a : Option Addr} {xs : List Q4} (h : OwnD w B a xs) : Sl4 w a xs := by
  rcases h with h | ⟨g, rfl, _, h, _⟩
  · exact .inl h
  · exact .inr ⟨g, 0, rfl, h⟩
theorem OwnD.below {w w' : World} {B : Nat} {a : Option Addr} {xs : List Q4} (h : OwnD w B a xs) (hb : Below w.heap.size w w') : OwnD w' B a xs := by
  rcases h with h | ⟨g, rfl, hB, h, hf⟩
  · exact .inl h
  · exact .inr ⟨g, rfl, hB, h.below hb, fun o => by rw [hb.frozen (p := ⟨g, o, none⟩) h.1]; exact hf o⟩
theorem OwnD.weaken {w : World} {B B' : Nat} {a : Option Addr} {xs : List Q4} (h : OwnD w B a xs) (hb : B' ≤ B) : OwnD w B' a xs := by
  rcases h with h | ⟨g, rfl, hB, h, hf⟩
  · exact .inl h
  · exact .inr ⟨g, rfl, Nat.le_trans hb hB, h, hf⟩
theorem At4.turned {L : List Nat} {w w' : World} {b off : Nat} {xs : List Q4} (h : At4 w b off xs) (ht : Turned L w w') (hb : b ∉ L) : At4 w' b off xs :=
  h.congr (Nat.lt_of_lt_of_le h.1 ht.size) fun o => World.cell?_of_block (w := w) (a := ⟨b, o, none⟩) (ht.block b h.1 hb)
theorem OwnD.turned {L : List Nat} {w w' : World} {B : Nat} {a : Option Addr} {xs : List Q4} (h : OwnD w B a xs) (ht : Turned L w w') (hb : ∀ g, a = some ⟨g, 0, none⟩ → g ∉ L) : OwnD w' B a xs := by
  rcases h with h | ⟨g, rfl, hB, h, hf⟩
  · exact .inl h
  · exact .inr ⟨g, rfl, hB, h.turned ht (hb g rfl), fun o => by rw [World.frozen?_of_block (w := w) (a := ⟨g, o, none⟩) (ht.block g h.1 (hb g rfl))]; exact hf o⟩
theorem Sl4.turned {L : List Nat} {w w' : World} {a : Option Addr} {xs : List Q4} (h : Sl4 w a xs) (ht : Turned L w w') (hb : ∀ x, a = some x → x.block ∉ L) : Sl4 w' a xs := by
  rcases h with h | ⟨b, off, rfl, h⟩
  · exact .inl h
  · exact .inr ⟨b, off, rfl, h.turned ht (hb _ rfl)⟩
/-- Nothing but the list's own block has turned. -/
def OnlyD (a : Option Addr) (xs : List Q4) (w w' : World) : Prop := (xs = [] ∧ w' = w) ∨ ∃ g, xs ≠ [] ∧ a = some ⟨g, 0, none⟩ ∧ Only g w w'
theorem Turned.ofOnlyD {L : List Nat} {a : Option Addr} {xs : List Q4} {w w' : World} (h : OnlyD a xs w w') (hg : ∀ g, a = some ⟨g, 0, none⟩ → g ∈ L) : Turned L w w' := by
  rcases h with ⟨_, rfl⟩ | ⟨g, _, e, h⟩
  · exact Turned.refl _ _
  · exact Turned.ofOnly h (hg g e)
/-- What there is, handed back by a call: its lists in memory of their own. -/
structure StB (bs : List (Int × Int)) (ds : List Q4) (B : Nat) (w : World) (a1 a2 : Option Addr) : Prop where
  boxes : OwnB w B a1 bs
  dones : OwnD w B a2 ds
  apart : ∀ g g', a1 = some ⟨g, 0, none⟩ → a2 = some ⟨g', 0, none⟩ → g ≠ g'
  far1 : ∀ x, a1 = some x → B ≤ x.block ∧ x.block < w.heap.size
  far2 : ∀ x, a2 = some x → B ≤ x.block ∧ x.block < w.heap.size
theorem StB.below {bs : List (Int × Int)} {ds : List Q4} {B : Nat} {w w' : World} {a1 a2 : Option Addr} (h : StB bs ds B w a1 a2) (hb : Below w.heap.size w w') : StB bs ds B w' a1 a2 :=
  ⟨h.boxes.below hb, h.dones.below hb, h.apart, fun x e => ⟨(h.far1 x e).1, Nat.lt_of_lt_of_le (h.far1 x e).2 hb.size⟩, fun x e => ⟨(h.far2 x e).1, Nat.lt_of_lt_of_le (h.far2 x e).2 hb.size⟩⟩
theorem StB.weaken {bs : List (Int × Int)} {ds : List Q4} {B B' : Nat} {w : World} {a1 a2 : Option Addr} (h : StB bs ds B w a1 a2) (hb : B' ≤ B) : StB bs ds B' w a1 a2 :=
  ⟨h.boxes.weaken hb, h.dones.weaken hb, h.apart, fun x e => ⟨Nat.le_trans hb (h.far1 x e).1, (h.far1 x e).2⟩, fun x e => ⟨Nat.le_trans hb (h.far2 x e).1, (h.far2 x e).2⟩⟩
theorem StB.turned {L : List Nat} {bs : List (Int × Int)} {ds : List Q4} {B : Nat} {w w' : World} {a1 a2 : Option Addr} (h : StB bs ds B w a1 a2) (ht : Turned L w w') (h1 : ∀ x, a1 = some x → x.block ∉ L) (h2 : ∀ x, a2 = some x → x.block ∉ L) : StB bs ds B w' a1 a2 :=
  ⟨h.boxes.turned ht (fun g e => h1 _ e), h.dones.turned ht (fun g e => h2 _ e), h.apart, fun x e => ⟨(h.far1 x e).1, Nat.lt_of_lt_of_le (h.far1 x e).2 ht.size⟩, fun x e => ⟨(h.far2 x e).1, Nat.lt_of_lt_of_le (h.far2 x e).2 ht.size⟩⟩
end Go.Proofs.Ytgcencilgpilaaa.Own
