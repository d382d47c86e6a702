/-
  Own texts, bundled: OwnB, Turned, OwnD, CertMath2.
-/
import Derived.Test.YtbecdihfopjlhaaGreatDoorPk1
import Derived.Test.YtbecdihfopjlhaaGreatDoorPk7
import Derived.Test.YtbecdihfopjlhaaGreatDoorPk2
import Derived.Test.YtbecdihfopjlhaaGreatDoorPk6
namespace Go.Proofs.YtbecdihfopjlhaaGreatDoor.Own
open Go.RowKit

/-- A list that a call made: from block B on, or empty. -/
def OwnB (w : World) (B : Nat) (a : Option Addr) (xs : List (Int × Int)) : Prop := xs = [] ∨ ∃ g, a = some ⟨g, 0, none⟩ ∧ B ≤ g ∧ BoxAt w g 0 xs ∧ (∀ o, w.frozen? ⟨g, o, none⟩ = false)
theorem OwnB.sl {w : World} {B : Nat} {a : Option Addr} {xs : List (Int × Int)} (h : OwnB w B a xs) : Sl w a xs := by
  rcases h with h | ⟨g, rfl, _, h, _⟩
  · exact .inl h
  · exact .inr ⟨g, 0, rfl, h⟩
theorem OwnB.below {w w' : World} {B : Nat} {a : Option Addr} {xs : List (Int × Int)} (h : OwnB w B a xs) (hb : Below w.heap.size w w') : OwnB w' B a xs := by
  rcases h with h | ⟨g, rfl, hB, h, hf⟩
  · exact .inl h
  · exact .inr ⟨g, rfl, hB, h.below hb, fun o => by rw [hb.frozen (p := ⟨g, o, none⟩) h.1]; exact hf o⟩
theorem OwnB.weaken {w : World} {B B' : Nat} {a : Option Addr} {xs : List (Int × Int)} (h : OwnB w B a xs) (hb : B' ≤ B) : OwnB w B' a xs := by
  rcases h with h | ⟨g, rfl, hB, h, hf⟩
  · exact .inl h
  · exact .inr ⟨g, rfl, Nat.le_trans hb hB, h, hf⟩
/-- Nothing but the list's own block has turned. -/
def OnlyB (a : Option Addr) (xs : List (Int × Int)) (w w' : World) : Prop := (xs = [] ∧ w' = w) ∨ ∃ g, xs ≠ [] ∧ a = some ⟨g, 0, none⟩ ∧ Only g w w'
theorem OnlyB.below {a : Option Addr} {xs : List (Int × Int)} {w w' : World} {B : Nat} (h : OnlyB a xs w w') (hB : ∀ g, xs ≠ [] → a = some ⟨g, 0, none⟩ → B ≤ g) : Below B w w' := by
  rcases h with ⟨_, rfl⟩ | ⟨g, hne, e, h⟩
  · exact Below.refl _ _
  · exact h.below (hB g hne e)
theorem OwnB.from {w : World} {B : Nat} {a : Option Addr} {xs : List (Int × Int)} (h : OwnB w B a xs) : ∀ g, xs ≠ [] → a = some ⟨g, 0, none⟩ → B ≤ g := by
  intro g hne e
  rcases h with h | ⟨g', e', hB, _⟩
  · exact absurd h hne
  · rw [e] at e'; injection e' with e'; injection e' with e1; omega
/-- Two lists that lie in different blocks. -/
def Apart (a b : Option Addr) (xs ys : List (Int × Int)) : Prop := xs = [] ∨ ys = [] ∨ ∀ g g', a = some ⟨g, 0, none⟩ → b = some ⟨g', 0, none⟩ → g ≠ g'
theorem OwnB.onlyB {w w' : World} {B : Nat} {a b : Option Addr} {xs ys : List (Int × Int)} (h : OwnB w B a xs) (ho : OnlyB b ys w w') (hap : Apart a b xs ys) : OwnB w' B a xs := by
  rcases ho with ⟨_, rfl⟩ | ⟨g, hne, rfl, ho⟩
  · exact h
  · rcases h with h | ⟨g', rfl, hB, h, hf⟩
    · exact .inl h
    · rcases hap with h0 | h0 | hap
      · exact .inl h0
      · exact absurd h0 hne
      · have hgg := hap g' g rfl rfl
        refine .inr ⟨g', rfl, hB, h.only ho hgg, fun o => ?_⟩
        rw [World.frozen?_of_block (w := w) (a := ⟨g', o, none⟩) (ho.block g' hgg)]; exact hf o
theorem Sl.onlyB {w w' : World} {a b : Option Addr} {xs ys : List (Int × Int)} {B : Nat} (h : Sl w a xs) (ho : OnlyB b ys w w') (hb : ∀ g, ys ≠ [] → b = some ⟨g, 0, none⟩ → B ≤ g) (ha : ∀ x, a = some x → x.block < B) : Sl w' a xs := by
  rcases ho with ⟨_, rfl⟩ | ⟨g, hne, rfl, ho⟩
  · exact h
  · rcases h with h | ⟨b, off, rfl, h⟩
    · exact .inl h
    · exact .inr ⟨b, off, rfl, h.only ho (by have := hb g hne rfl; have := ha _ rfl; simp at this; omega)⟩
theorem marks_nil (k : Int) : marks k 0 = [] := rfl
theorem nil_of {xs : List (Int × Int)} (h : xs.length = 0) : xs = [] := List.eq_nil_of_length_eq_zero h
end Go.Proofs.YtbecdihfopjlhaaGreatDoor.Own

namespace Go.Proofs.YtbecdihfopjlhaaGreatDoor.Own
open Go.RowKit

structure Turned (L : List Nat) (w w' : World) : Prop where
  os : w'.os = w.os
  tape : w'.tape = w.tape
  output : w'.output = w.output
  size : w.heap.size ≤ w'.heap.size
  block : ∀ k, k < w.heap.size → k ∉ L → w'.heap[k]? = w.heap[k]?

theorem Turned.refl (L : List Nat) (w : World) : Turned L w w := ⟨rfl, rfl, rfl, Nat.le_refl _, fun _ _ _ => rfl⟩
theorem Turned.trans {L : List Nat} {a b c : World} (h : Turned L a b) (k : Turned L b c) : Turned L a c :=
  ⟨k.os.trans h.os, k.tape.trans h.tape, k.output.trans h.output, Nat.le_trans h.size k.size, fun i hi hn => (k.block i (Nat.lt_of_lt_of_le hi h.size) hn).trans (h.block i hi hn)⟩
theorem Turned.ofBelow {L : List Nat} {w w' : World} (h : Below w.heap.size w w') : Turned L w w' := ⟨h.os, h.tape, h.output, h.size, fun k hk _ => h.block k hk⟩
theorem Turned.ofOnly {L : List Nat} {g : Nat} {w w' : World} (h : Only g w w') (hg : g ∈ L) : Turned L w w' :=
  ⟨h.os, h.tape, h.output, Nat.le_of_eq h.size.symm, fun k _ hn => h.block k (fun e => hn (e ▸ hg))⟩
theorem Turned.ofOnlyB {L : List Nat} {a : Option Addr} {xs : List (Int × Int)} {w w' : World} (h : OnlyB a xs w w') (hg : ∀ g, a = some ⟨g, 0, none⟩ → g ∈ L) : Turned L w w' := by
  rcases h with ⟨_, rfl⟩ | ⟨g, _, e, h⟩
  · exact Turned.refl _ _
  · exact Turned.ofOnly h (hg g e)
theorem Turned.mono {L L' : List Nat} {w w' : World} (h : Turned L w w') (hs : ∀ x, x ∈ L → x ∈ L') : Turned L' w w' :=
  ⟨h.os, h.tape, h.output, h.size, fun k hk hn => h.block k hk (fun e => hn (hs _ e))⟩
theorem Turned.below {L : List Nat} {w w' : World} {B : Nat} (h : Turned L w w') (hL : ∀ x, x ∈ L → B ≤ x) (hB : B ≤ w.heap.size) : Below B w w' :=
  ⟨h.os, h.tape, h.output, h.size, fun k hk => h.block k (by omega) (fun e => by have := hL _ e; omega)⟩
theorem BoxAt.turned {L : List Nat} {w w' : World} {b off : Nat} {xs : List (Int × Int)} (h : BoxAt w b off xs) (ht : Turned L w w') (hb : b ∉ L) : BoxAt w' b off xs := by
  have e : ∀ o, w'.cell? ⟨b, o, none⟩ = w.cell? ⟨b, o, none⟩ := fun o => World.cell?_of_block (w := w) (a := ⟨b, o, none⟩) (ht.block b h.1 hb)
  exact ⟨Nat.lt_of_lt_of_le h.1 ht.size, fun i hi => by rw [e, e]; exact h.2 i hi⟩
theorem Sl.turned {L : List Nat} {w w' : World} {a : Option Addr} {xs : List (Int × Int)} (h : Sl w a xs) (ht : Turned L w w') (hb : ∀ x, a = some x → x.block ∉ L) : Sl w' a xs := by
  rcases h with h | ⟨b, off, rfl, h⟩
  · exact .inl h
  · exact .inr ⟨b, off, rfl, h.turned ht (hb _ rfl)⟩
theorem OwnB.turned {L : List Nat} {w w' : World} {B : Nat} {a : Option Addr} {xs : List (Int × Int)} (h : OwnB w B a xs) (ht : Turned L w w') (hb : ∀ g, a = some ⟨g, 0, none⟩ → g ∉ L) : OwnB w' B a xs := by
  rcases h with h | ⟨g, rfl, hB, h, hf⟩
  · exact .inl h
  · exact .inr ⟨g, rfl, hB, h.turned ht (hb g rfl), fun o => by rw [World.frozen?_of_block (w := w) (a := ⟨g, o, none⟩) (ht.block g h.1 (hb g rfl))]; exact hf o⟩
theorem C4.turned {L : List Nat} {w w' : World} {b : Nat} {x0 x1 x2 x3 : Value} (h : C4 w b x0 x1 x2 x3) (ht : Turned L w w') (hb : b ∉ L) : C4 w' b x0 x1 x2 x3 := by
  have e : ∀ o, w'.cell? ⟨b, o, none⟩ = w.cell? ⟨b, o, none⟩ := fun o => World.cell?_of_block (w := w) (a := ⟨b, o, none⟩) (ht.block b h.1 hb)
  refine ⟨Nat.lt_of_lt_of_le h.1 ht.size, ?_⟩
  rw [e, e, e, e]; exact h.2
end Go.Proofs.YtbecdihfopjlhaaGreatDoor.Own

namespace Go.Proofs.YtbecdihfopjlhaaGreatDoor.Own
open Go.RowKit
set_option linter.unusedVariables false

/-- A list that a call made: from block B on, or empty. -/
def OwnD (w : World) (B : Nat) (a : Option Addr) (xs : List Q4) : Prop := xs = [] ∨ ∃ g, a = some ⟨g, 0, none⟩ ∧ B ≤ g ∧ At4 w g 0 xs ∧ (∀ o, w.frozen? ⟨g, o, none⟩ = false)
theorem OwnD.sl {w : World} {B : Nat} {a : Option Addr} {xs : List Q4} (h : OwnD w B a xs) : Sl4 w a xs := by
  rcases h with h | ⟨g, rfl, _, h, _⟩
  · exact .inl h
  · exact .inr ⟨g, 0, rfl, h⟩
theorem OwnD.below {w w' : World} {B : Nat} {a : Option Addr} {xs : List Q4} (h : OwnD w B a xs) (hb : Below w.heap.size w w') : OwnD w' B a xs := by
  rcases h with h | ⟨g, rfl, hB, h, hf⟩
  · exact .inl h
  · exact .inr ⟨g, rfl, hB, h.below hb, fun o => by rw [hb.frozen (p := ⟨g, o, none⟩) h.1]; exact hf o⟩
theorem OwnD.weaken {w : World} {B B' : Nat} {a : Option Addr} {xs : List Q4} (h : OwnD w B a xs) (hb : B' ≤ B) : OwnD w B' a xs := by
  rcases h with h | ⟨g, rfl, hB, h, hf⟩
  · exact .inl h
  · exact .inr ⟨g, rfl, Nat.le_trans hb hB, h, hf⟩
theorem At4.turned {L : List Nat} {w w' : World} {b off : Nat} {xs : List Q4} (h : At4 w b off xs) (ht : Turned L w w') (hb : b ∉ L) : At4 w' b off xs :=
  h.congr (Nat.lt_of_lt_of_le h.1 ht.size) fun o => World.cell?_of_block (w := w) (a := ⟨b, o, none⟩) (ht.block b h.1 hb)
theorem OwnD.turned {L : List Nat} {w w' : World} {B : Nat} {a : Option Addr} {xs : List Q4} (h : OwnD w B a xs) (ht : Turned L w w') (hb : ∀ g, a = some ⟨g, 0, none⟩ → g ∉ L) : OwnD w' B a xs := by
  rcases h with h | ⟨g, rfl, hB, h, hf⟩
  · exact .inl h
  · exact .inr ⟨g, rfl, hB, h.turned ht (hb g rfl), fun o => by rw [World.frozen?_of_block (w := w) (a := ⟨g, o, none⟩) (ht.block g h.1 (hb g rfl))]; exact hf o⟩
theorem Sl4.turned {L : List Nat} {w w' : World} {a : Option Addr} {xs : List Q4} (h : Sl4 w a xs) (ht : Turned L w w') (hb : ∀ x, a = some x → x.block ∉ L) : Sl4 w' a xs := by
  rcases h with h | ⟨b, off, rfl, h⟩
  · exact .inl h
  · exact .inr ⟨b, off, rfl, h.turned ht (hb _ rfl)⟩
/-- Nothing but the list's own block has turned. -/
def OnlyD (a : Option Addr) (xs : List Q4) (w w' : World) : Prop := (xs = [] ∧ w' = w) ∨ ∃ g, xs ≠ [] ∧ a = some ⟨g, 0, none⟩ ∧ Only g w w'
theorem Turned.ofOnlyD {L : List Nat} {a : Option Addr} {xs : List Q4} {w w' : World} (h : OnlyD a xs w w') (hg : ∀ g, a = some ⟨g, 0, none⟩ → g ∈ L) : Turned L w w' := by
  rcases h with ⟨_, rfl⟩ | ⟨g, _, e, h⟩
  · exact Turned.refl _ _
  · exact Turned.ofOnly h (hg g e)
/-- What there is, handed back by a call: its lists in memory of their own. -/
structure StB (bs : List (Int × Int)) (ds : List Q4) (B : Nat) (w : World) (a1 a2 : Option Addr) : Prop where
  boxes : OwnB w B a1 bs
  dones : OwnD w B a2 ds
  apart : ∀ g g', a1 = some ⟨g, 0, none⟩ → a2 = some ⟨g', 0, none⟩ → g ≠ g'
  far1 : ∀ x, a1 = some x → B ≤ x.block ∧ x.block < w.heap.size
  far2 : ∀ x, a2 = some x → B ≤ x.block ∧ x.block < w.heap.size
theorem StB.below {bs : List (Int × Int)} {ds : List Q4} {B : Nat} {w w' : World} {a1 a2 : Option Addr} (h : StB bs ds B w a1 a2) (hb : Below w.heap.size w w') : StB bs ds B w' a1 a2 :=
  ⟨h.boxes.below hb, h.dones.below hb, h.apart, fun x e => ⟨(h.far1 x e).1, Nat.lt_of_lt_of_le (h.far1 x e).2 hb.size⟩, fun x e => ⟨(h.far2 x e).1, Nat.lt_of_lt_of_le (h.far2 x e).2 hb.size⟩⟩
theorem StB.weaken {bs : List (Int × Int)} {ds : List Q4} {B B' : Nat} {w : World} {a1 a2 : Option Addr} (h : StB bs ds B w a1 a2) (hb : B' ≤ B) : StB bs ds B' w a1 a2 :=
  ⟨h.boxes.weaken hb, h.dones.weaken hb, h.apart, fun x e => ⟨Nat.le_trans hb (h.far1 x e).1, (h.far1 x e).2⟩, fun x e => ⟨Nat.le_trans hb (h.far2 x e).1, (h.far2 x e).2⟩⟩
theorem StB.turned {L : List Nat} {bs : List (Int × Int)} {ds : List Q4} {B : Nat} {w w' : World} {a1 a2 : Option Addr} (h : StB bs ds B w a1 a2) (ht : Turned L w w') (h1 : ∀ x, a1 = some x → x.block ∉ L) (h2 : ∀ x, a2 = some x → x.block ∉ L) : StB bs ds B w' a1 a2 :=
  ⟨h.boxes.turned ht (fun g e => h1 _ e), h.dones.turned ht (fun g e => h2 _ e), h.apart, fun x e => ⟨(h.far1 x e).1, Nat.lt_of_lt_of_le (h.far1 x e).2 ht.size⟩, fun x e => ⟨(h.far2 x e).1, Nat.lt_of_lt_of_le (h.far2 x e).2 ht.size⟩⟩
end Go.Proofs.YtbecdihfopjlhaaGreatDoor.Own

namespace Go.Proofs.YtbecdihfopjlhaaGreatDoor.Own
open Go.RowKit
set_option linter.unusedVariables false
set_option linter.unusedSimpArgs false

/-- One round of the loop that keeps a request: what has come out, and whether the new one is in. -/
def putStep (d : Q4) (s : List Q4 × Bool) (x : Q4) : List Q4 × Bool :=
  if !s.2 && decide (d.1 ≤ x.1) then (if x.1 = d.1 then (s.1 ++ [d], true) else (s.1 ++ [d] ++ [x], true))
  else (if x.1 = d.1 then s else (s.1 ++ [x], s.2))
def putGo (d : Q4) (ds : List Q4) : List Q4 × Bool := ds.foldl (putStep d) ([], false)
def putD (d : Q4) (ds : List Q4) : List Q4 := if (putGo d ds).2 then (putGo d ds).1 else (putGo d ds).1 ++ [d]
theorem putGo_succ (d : Q4) {ds : List Q4} {k : Nat} (h : k < ds.length) : putGo d (ds.take (k + 1)) = putStep d (putGo d (ds.take k)) (ds.getD k q0) := by
  unfold putGo
  rw [List.take_succ_eq_append_getElem h, List.foldl_append]
  simp [List.getD, h]
theorem putGo_len (d : Q4) (ds : List Q4) : (putGo d ds).1.length + cond (putGo d ds).2 0 1 ≤ ds.length + 1 := by
  have key : ∀ (l : List Q4) (s : List Q4 × Bool), (l.foldl (putStep d) s).1.length + cond (l.foldl (putStep d) s).2 0 1 ≤ s.1.length + l.length + cond s.2 0 1 := by
    intro l
    induction l with
    | nil => intro s; exact Nat.le_refl _
    | cons x r ih =>
      intro s
      rw [List.foldl_cons]
      refine Nat.le_trans (ih _) ?_
      unfold putStep
      obtain ⟨s1, s2⟩ := s
      cases s2 <;> simp
      · split <;> split <;> simp <;> omega
      · split <;> simp <;> omega
  have := key ds ([], false)
  simp only [List.length_nil, Nat.zero_add, cond_false] at this
  exact this
theorem putD_len (d : Q4) (ds : List Q4) : (putD d ds).length ≤ ds.length + 1 := by
  have := putGo_len d ds
  unfold putD
  cases h : (putGo d ds).2 with
  | true => rw [h] at this; simp at this ⊢; omega
  | false => rw [h] at this; simp at this ⊢; omega
/-- Kept among the requests of three nodes. -/
theorem putD_listM (m : Nat → Option T3) (j : Nat) (hj : j < 3) (t : T3) : putD ((j : Int), t.1, t.2.1, t.2.2) (listM m) = listM (setM m j t) := by
  unfold putD putGo listM setM
  rcases (by omega : j = 0 ∨ j = 1 ∨ j = 2) with rfl | rfl | rfl <;>
  cases e0 : m 0 <;> cases e1 : m 1 <;> cases e2 : m 2 <;> simp [withWho, putStep, e0, e1, e2]
/-- The last request of a node among the first k. -/
def noneD (ds : List Q4) (j : Int) (k : Nat) : Prop := ∀ i, i < k → (ds.getD i q0).1 ≠ j
theorem listM_some {m : Nat → Option T3} {j : Nat} {t : T3} (hj : j < 3) (h : m j = some t) : ∃ i, i < (listM m).length ∧ (listM m).getD i q0 = ((j : Int), t.1, t.2.1, t.2.2) := by
  unfold listM
  rcases (by omega : j = 0 ∨ j = 1 ∨ j = 2) with rfl | rfl | rfl
  · rw [h]; exact ⟨0, by simp [withWho], by simp [withWho]⟩
  · rw [h]; cases e0 : m 0
    · exact ⟨0, by simp [withWho], by simp [withWho]⟩
    · exact ⟨1, by simp [withWho], by simp [withWho]⟩
  · rw [h]; cases e0 : m 0 <;> cases e1 : m 1
    · exact ⟨0, by simp [withWho], by simp [withWho]⟩
    · exact ⟨1, by simp [withWho], by simp [withWho]⟩
    · exact ⟨1, by simp [withWho], by simp [withWho]⟩
    · exact ⟨2, by simp [withWho], by simp [withWho]⟩
theorem listM_at {m : Nat → Option T3} {i : Nat} (hi : i < (listM m).length) : ∃ j t, j < 3 ∧ m j = some t ∧ (listM m).getD i q0 = ((j : Int), t.1, t.2.1, t.2.2) := by
  revert hi
  unfold listM
  cases e0 : m 0 <;> cases e1 : m 1 <;> cases e2 : m 2 <;> simp only [withWho, List.nil_append, List.append_nil, List.cons_append, List.length_cons, List.length_nil] <;> intro hi
  · omega
  · obtain rfl : i = 0 := by omega
    exact ⟨2, _, by omega, e2, rfl⟩
  · obtain rfl : i = 0 := by omega
    exact ⟨1, _, by omega, e1, rfl⟩
  · rcases (by omega : i = 0 ∨ i = 1) with rfl | rfl
    · exact ⟨1, _, by omega, e1, rfl⟩
    · exact ⟨2, _, by omega, e2, rfl⟩
  · obtain rfl : i = 0 := by omega
    exact ⟨0, _, by omega, e0, rfl⟩
  · rcases (by omega : i = 0 ∨ i = 1) with rfl | rfl
    · exact ⟨0, _, by omega, e0, rfl⟩
    · exact ⟨2, _, by omega, e2, rfl⟩
  · rcases (by omega : i = 0 ∨ i = 1) with rfl | rfl
    · exact ⟨0, _, by omega, e0, rfl⟩
    · exact ⟨1, _, by omega, e1, rfl⟩
  · rcases (by omega : i = 0 ∨ i = 1 ∨ i = 2) with rfl | rfl | rfl
    · exact ⟨0, _, by omega, e0, rfl⟩
    · exact ⟨1, _, by omega, e1, rfl⟩
    · exact ⟨2, _, by omega, e2, rfl⟩
/-- The last requests of a list, one put behind the other. -/
def mOf (ds : List Q4) : Nat → Option T3 := ds.foldl (fun m d => setM m d.1.toNat (d.2.1, d.2.2.1, d.2.2.2)) (fun _ => none)
theorem mOf_succ {ds : List Q4} {k : Nat} (h : k < ds.length) : mOf (ds.take (k + 1)) = setM (mOf (ds.take k)) (ds.getD k q0).1.toNat ((ds.getD k q0).2.1, (ds.getD k q0).2.2.1, (ds.getD k q0).2.2.2) := by
  unfold mOf
  rw [List.take_succ_eq_append_getElem h, List.foldl_append]
  simp [List.getD, h]
theorem mOf_listM (m : Nat → Option T3) (h : ∀ j, 3 ≤ j → m j = none) : mOf (listM m) = m := by
  funext i
  unfold mOf listM
  rcases (by omega : i = 0 ∨ i = 1 ∨ i = 2 ∨ 3 ≤ i) with rfl | rfl | rfl | hi
  · cases e0 : m 0 <;> cases e1 : m 1 <;> cases e2 : m 2 <;> simp [withWho, setM, e0, e1, e2]
  · cases e0 : m 0 <;> cases e1 : m 1 <;> cases e2 : m 2 <;> simp [withWho, setM, e0, e1, e2]
  · cases e0 : m 0 <;> cases e1 : m 1 <;> cases e2 : m 2 <;> simp [withWho, setM, e0, e1, e2]
  · have := h i hi
    have h0 : i ≠ 0 := by omega
    have h1 : i ≠ 1 := by omega
    have h2 : i ≠ 2 := by omega
    cases e0 : m 0 <;> cases e1 : m 1 <;> cases e2 : m 2 <;> simp [withWho, setM, this, h0, h1, h2]
theorem okM_none : okM (fun _ => none) := fun j t _ h => by cases h


/-- Whether an entry may come in. -/
def goodA (z : Int) (bs : List P2) (ds : List Q4) (n : Bool) (p q : Int) (xs ys : List P2) (v k : Int) : Bool := stOk z bs ds && entOk n p q xs ys v k && z != 40
/-- What there is behind an entry, and how it ended. -/
def codeA (bs : List P2) (ds : List Q4) (n : Bool) (p q : Int) (xs ys : List P2) (v k : Int) : Int := verdict bs (mOf ds) n p q xs ys v k
def apZ (z : Int) (bs : List P2) (ds : List Q4) (n : Bool) (p q : Int) (xs ys : List P2) (v k : Int) : Int := if goodA z bs ds n p q xs ys v k then z + 1 else 0
def apB (z : Int) (bs : List P2) (ds : List Q4) (n : Bool) (p q : Int) (xs ys : List P2) (v k : Int) : List P2 := if goodA z bs ds n p q xs ys v k then boxesBy (codeA bs ds n p q xs ys v k) bs ys else []
def apD (z : Int) (bs : List P2) (ds : List Q4) (n : Bool) (p q : Int) (xs ys : List P2) (v k : Int) : List Q4 := if goodA z bs ds n p q xs ys v k then listM (keptBy (codeA bs ds n p q xs ys v k) (mOf ds) p q v) else []
def apC (z : Int) (bs : List P2) (ds : List Q4) (n : Bool) (p q : Int) (xs ys : List P2) (v k : Int) : Int := if goodA z bs ds n p q xs ys v k then codeA bs ds n p q xs ys v k else -1
/-- What CertApply answers. -/
def ApplyPost (z : Int) (bs : List P2) (ds : List Q4) (c : Int) (w : World) (e : Ending) (w' : World) : Prop :=
  ∃ g1 g2 e1 e2, e = .returned (.tuple #[.agg #[.int .i64 z, .slice g1 bs.length e1, .slice g2 ds.length e2], .int .i64 c]) ∧ bs.length ≤ e1 ∧ ds.length ≤ e2 ∧ StB bs ds w.heap.size w' g1 g2 ∧ Below w.heap.size w w'
theorem apply_bad {z : Int} {bs : List P2} {ds : List Q4} {n : Bool} {p q : Int} {xs ys : List P2} {v k : Int} (h : goodA z bs ds n p q xs ys v k = false) : apZ z bs ds n p q xs ys v k = 0 ∧ apB z bs ds n p q xs ys v k = [] ∧ apD z bs ds n p q xs ys v k = [] ∧ apC z bs ds n p q xs ys v k = -1 := by
  unfold apZ apB apD apC; rw [h]; exact ⟨rfl, rfl, rfl, rfl⟩
theorem apply_good {z : Int} {bs : List P2} {ds : List Q4} {n : Bool} {p q : Int} {xs ys : List P2} {v k : Int} (h : goodA z bs ds n p q xs ys v k = true) : apZ z bs ds n p q xs ys v k = z + 1 ∧ apB z bs ds n p q xs ys v k = boxesBy (codeA bs ds n p q xs ys v k) bs ys ∧ apD z bs ds n p q xs ys v k = listM (keptBy (codeA bs ds n p q xs ys v k) (mOf ds) p q v) ∧ apC z bs ds n p q xs ys v k = codeA bs ds n p q xs ys v k := by
  unfold apZ apB apD apC; rw [h]; exact ⟨rfl, rfl, rfl, rfl⟩
theorem StB.empty (B : Nat) (w : World) : StB [] [] B w none none := ⟨.inl rfl, .inl rfl, fun _ _ e => (by cases e), fun _ e => (by cases e), fun _ e => (by cases e)⟩
/-- What is empty shares nothing, wherever it is. -/
theorem goodA_parts {z : Int} {bs : List P2} {ds : List Q4} {n : Bool} {p q : Int} {xs ys : List P2} {v k : Int} (h : goodA z bs ds n p q xs ys v k = true) : stOk z bs ds = true ∧ entOk n p q xs ys v k = true ∧ z ≠ 40 := by
  simp only [goodA, Bool.and_eq_true, bne_iff_ne, ne_eq] at h
  exact ⟨h.1.1, h.1.2, h.2⟩
end Go.Proofs.YtbecdihfopjlhaaGreatDoor.Own
