/-
  Own text: the text of an entry: plain mathematics.
-/
import Derived.Test.YtmcpefikmcaemaaDoorItoa
import Derived.Test.YtmcpefikmcaemaaDoorVoteMem
namespace Go.Proofs.YtmcpefikmcaemaaDoor.Own
open Go.RowKit
set_option linter.unusedVariables false

def WfP (xs : List P2) : Prop := ∀ k, k < xs.length → Fits (xs.getD k (0, 0)).1 ∧ Fits (xs.getD k (0, 0)).2
/-- Two numbers, a mark ahead of each. -/
def pairText (m1 m2 : UInt8) (p : P2) : List UInt8 := m1 :: (Lib.itoa p.1 ++ (m2 :: Lib.itoa p.2))
/-- The first k pairs, behind what is there already. -/
def pairsTo (m1 m2 : UInt8) (l : List UInt8) (xs : List P2) : Nat → List UInt8
  | 0 => l
  | k + 1 => pairsTo m1 m2 l xs k ++ pairText m1 m2 (xs.getD k (0, 0))
/-- Of whom, and which. -/
def headText (p q : Int) : List UInt8 := Lib.itoa p ++ (46 :: (Lib.itoa q ++ [123]))
theorem pairsTo_app (m1 m2 : UInt8) (l : List UInt8) (xs : List P2) (k : Nat) : pairsTo m1 m2 l xs k = l ++ pairsTo m1 m2 [] xs k := by
  induction k with
  | zero => simp [pairsTo]
  | succ k ih => simp only [pairsTo]; rw [ih, List.append_assoc]
def readsText (e : EB) : List UInt8 := pairsTo 63 47 (headText e.p e.q) e.xs e.xs.length
def putsText (e : EB) : List UInt8 := pairsTo 33 61 (readsText e) e.ys e.ys.length
def entText (e : EB) : List UInt8 := if e.n then [110, 111, 110, 101] else putsText e ++ (125 :: (Lib.itoa e.v ++ (58 :: Lib.itoa e.k)))
def WfE (e : EB) : Prop := Fits e.p ∧ Fits e.q ∧ WfP e.xs ∧ WfP e.ys ∧ Fits e.v ∧ Fits e.k
theorem pair_len (m1 m2 : UInt8) (p : P2) (h : Fits p.1 ∧ Fits p.2) : (pairText m1 m2 p).length ≤ 44 := by
  have := itoa_len _ h.1; have := itoa_len _ h.2
  simp [pairText]; omega
theorem pairsTo_len (m1 m2 : UInt8) (l : List UInt8) (xs : List P2) (h : WfP xs) (k : Nat) (hk : k ≤ xs.length) : (pairsTo m1 m2 l xs k).length ≤ l.length + 44 * k := by
  induction k with
  | zero => simp [pairsTo]
  | succ k ih =>
    have := ih (by omega)
    have := pair_len m1 m2 _ (h k (by omega))
    simp only [pairsTo, List.length_append]
    omega
theorem head_len (p q : Int) (hp : Fits p) (hq : Fits q) : (headText p q).length ≤ 44 := by
  have := itoa_len _ hp; have := itoa_len _ hq
  simp [headText]; omega
/-- The same behind what is there already. -/
theorem entText_behind (l : List UInt8) (e : EB) (h : e.n = false) : pairsTo 33 61 (pairsTo 63 47 (l ++ headText e.p e.q) e.xs e.xs.length) e.ys e.ys.length ++ (125 :: (Lib.itoa e.v ++ (58 :: Lib.itoa e.k))) = l ++ entText e := by
  unfold entText putsText readsText
  rw [h]
  simp only [Bool.false_eq_true, if_false]
  rw [pairsTo_app 33 61 (pairsTo 63 47 (l ++ headText e.p e.q) e.xs e.xs.length), pairsTo_app 63 47 (l ++ headText e.p e.q), pairsTo_app 33 61 (pairsTo 63 47 (headText e.p e.q) e.xs e.xs.length), pairsTo_app 63 47 (headText e.p e.q)]
  simp only [List.append_assoc]
theorem entText_ne (e : EB) : entText e ≠ [] := by
  unfold entText
  split <;> simp
theorem entText_len (e : EB) (h : WfE e) : (entText e).length ≤ 44 * (e.xs.length + e.ys.length) + 132 := by
  obtain ⟨f1, f2, f3, f4, f5, f6⟩ := h
  have a1 := head_len _ _ f1 f2
  have a2 := pairsTo_len 63 47 (headText e.p e.q) e.xs f3 _ (Nat.le_refl _)
  have a3 := pairsTo_len 33 61 (readsText e) e.ys f4 _ (Nat.le_refl _)
  have a4 := itoa_len _ f5
  have a5 := itoa_len _ f6
  unfold entText
  split
  · simp only [List.length_cons, List.length_nil]; omega
  · have e1 : (putsText e).length ≤ (readsText e).length + 44 * e.ys.length := a3
    have e2 : (readsText e).length ≤ (headText e.p e.q).length + 44 * e.xs.length := a2
    simp only [List.length_append, List.length_cons]
    omega
end Go.Proofs.YtmcpefikmcaemaaDoor.Own
