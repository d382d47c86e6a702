/-
  Own text: the boxes that a program can look into, or put into: plain mathematics, and what (impl.Ins).loads, puts, slices.IndexFunc and slices.ContainsFunc do.
-/
import Derived.Test.YtgcencilgpilaaaBase4
import Derived.BigQuiet
import Derived.Deep.QuietTactic
namespace Go.Proofs.Ytgcencilgpilaaa.Own
open Go.RowKit
set_option linter.unusedVariables false

def loadsQ (p : Q4) (b : Int) : Bool := p.1 == 1 && p.2.2.1 == b
def putsQ (p : Q4) (b : Int) : Bool := p.1 == 2 && p.2.1 == b
/-- Of the first k boxes those that are met, ascending. -/
def boxesTo (f : Q4 → Int → Bool) (xs : List Q4) : Nat → List Int
  | 0 => []
  | k + 1 => boxesTo f xs k ++ (if xs.any (fun p => f p (k : Int)) then [(k : Int)] else [])

theorem boxesTo_len (f : Q4 → Int → Bool) (xs : List Q4) (k : Nat) : (boxesTo f xs k).length ≤ k := by
  induction k with
  | zero => simp [boxesTo]
  | succ k ih => simp only [boxesTo, List.length_append]; split <;> simp <;> omega

theorem any_take_succ {α : Type} {p : α → Bool} {xs : List α} {k : Nat} (d : α) (h : k < xs.length) : (xs.take (k + 1)).any p = ((xs.take k).any p || p (xs.getD k d)) := by
  rw [List.take_succ_eq_append_getElem h, List.any_append]
  simp only [List.any_cons, List.any_nil, Bool.or_false, List.getD_eq_getElem?_getD, List.getElem?_eq_getElem h, Option.getD_some]

theorem any_true {α : Type} {p : α → Bool} {xs : List α} {k : Nat} (d : α) (h : k < xs.length) (hp : p (xs.getD k d) = true) : xs.any p = true := by
  rw [List.any_eq_true]
  exact ⟨xs.getD k d, by simp [List.getD, h], hp⟩

/-- Rows that lie below n₀. -/
def Sl4b (n₀ : Nat) (w : World) (a : Option Addr) (xs : List Q4) : Prop := xs = [] ∨ ∃ b off, a = some ⟨b, off, none⟩ ∧ b < n₀ ∧ At4 w b off xs
theorem Sl4b.below {n₀ : Nat} {w w' : World} {a : Option Addr} {xs : List Q4} (h : Sl4b n₀ w a xs) (hb : Below n₀ w w') : Sl4b n₀ w' a xs := by
  rcases h with h | ⟨b, off, rfl, hlt, h⟩
  · exact .inl h
  · exact .inr ⟨b, off, rfl, hlt, h.belowAt hb hlt⟩
theorem Sl4b.sl {n₀ : Nat} {w : World} {a : Option Addr} {xs : List Q4} (h : Sl4b n₀ w a xs) : Sl4 w a xs := by
  rcases h with h | ⟨b, off, rfl, hlt, h⟩
  · exact .inl h
  · exact .inr ⟨b, off, rfl, h⟩
theorem Sl4.at {w : World} {a : Option Addr} {xs : List Q4} (h : Sl4 w a xs) : Sl4b w.heap.size w a xs := by
  rcases h with h | ⟨b, off, rfl, h⟩
  · exact .inl h
  · exact .inr ⟨b, off, rfl, h.1, h⟩
theorem grownBy_of_below {w w' : World} (h : Below w.heap.size w w') : w.grownBy w' none := ⟨h.os, h.tape, h.output, h.size, fun k hk _ => h.block k hk⟩
theorem ownsRow_lower {w : World} {B B' e s n : Nat} {v : Value} {xs : List Value} (h : w.ownsRow B e s v n xs) (hB : B' ≤ B) : w.ownsRow B' e s v n xs := by
  obtain ⟨h1, h2⟩ := h
  refine ⟨h1, ?_⟩
  rcases h2 with h2 | ⟨g, cap, cur, hv, hg, r⟩
  · exact .inl h2
  · exact .inr ⟨g, cap, cur, hv, Nat.le_trans hB hg, r⟩
end Go.Proofs.Ytgcencilgpilaaa.Own
