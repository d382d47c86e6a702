/-
  Own text: the text of an instruction and of a program: plain mathematics.
-/
import Derived.Test.YtbcnmmofccackaaGreatDoorItoa
import Derived.Test.YtbcnmmofccackaaGreatDoorWf4
namespace Go.Proofs.YtbcnmmofccackaaGreatDoor.Own
open Go.RowKit
set_option linter.unusedVariables false

/-- The text of an instruction. -/
def insText (p : Q4) : List UInt8 :=
  if p.1 = 1 then [108, 111, 97, 100] ++ (32 :: Lib.itoa p.2.1) ++ (32 :: Lib.itoa p.2.2.1)
  else if p.1 = 2 then [112, 117, 116] ++ (32 :: Lib.itoa p.2.1) ++ (32 :: Lib.itoa p.2.2.1)
  else if p.1 = 3 then [110, 117, 109] ++ (32 :: Lib.itoa p.2.1) ++ (32 :: Lib.itoa p.2.2.2)
  else if p.1 = 4 then [97, 100, 100] ++ (32 :: Lib.itoa p.2.1) ++ (32 :: Lib.itoa p.2.2.1)
  else if p.1 = 5 then [115, 117, 98] ++ (32 :: Lib.itoa p.2.1) ++ (32 :: Lib.itoa p.2.2.1)
  else if p.1 = 6 then [108, 101, 115, 115] ++ (32 :: Lib.itoa p.2.1) ++ (32 :: Lib.itoa p.2.2.1) ++ (32 :: Lib.itoa p.2.2.2)
  else if p.1 = 7 then [102, 97, 105, 108]
  else [110, 111, 110, 101]

theorem insText_1 (a b n : Int) : insText (1, a, b, n) = [108, 111, 97, 100] ++ (32 :: Lib.itoa a) ++ (32 :: Lib.itoa b) := rfl
theorem insText_2 (a b n : Int) : insText (2, a, b, n) = [112, 117, 116] ++ (32 :: Lib.itoa a) ++ (32 :: Lib.itoa b) := rfl
theorem insText_3 (a b n : Int) : insText (3, a, b, n) = [110, 117, 109] ++ (32 :: Lib.itoa a) ++ (32 :: Lib.itoa n) := rfl
theorem insText_4 (a b n : Int) : insText (4, a, b, n) = [97, 100, 100] ++ (32 :: Lib.itoa a) ++ (32 :: Lib.itoa b) := rfl
theorem insText_5 (a b n : Int) : insText (5, a, b, n) = [115, 117, 98] ++ (32 :: Lib.itoa a) ++ (32 :: Lib.itoa b) := rfl
theorem insText_6 (a b n : Int) : insText (6, a, b, n) = [108, 101, 115, 115] ++ (32 :: Lib.itoa a) ++ (32 :: Lib.itoa b) ++ (32 :: Lib.itoa n) := rfl
theorem insText_7 (a b n : Int) : insText (7, a, b, n) = [102, 97, 105, 108] := rfl
theorem insText_no {k : Int} (a b n : Int) (h1 : k ≠ 1) (h2 : k ≠ 2) (h3 : k ≠ 3) (h4 : k ≠ 4) (h5 : k ≠ 5) (h6 : k ≠ 6) (h7 : k ≠ 7) : insText (k, a, b, n) = [110, 111, 110, 101] := by
  simp [insText, h1, h2, h3, h4, h5, h6, h7]

theorem insText_len (p : Q4) (h : FitsQ p) : (insText p).length ≤ 70 := by
  obtain ⟨k, a, b, n⟩ := p
  obtain ⟨_, ha, hb, hn⟩ := h
  have := itoa_len a ha
  have := itoa_len b hb
  have := itoa_len n hn
  unfold insText
  simp only
  repeat (split; simp; omega)
  split <;> simp

/-- The text of the first k instructions. -/
def progTo (xs : List Q4) : Nat → List UInt8
  | 0 => []
  | k + 1 => progTo xs k ++ ((if k = 0 then [] else [44]) ++ insText (xs.getD k q0))

theorem progTo_len (xs : List Q4) (h : Wf4 xs) (k : Nat) (hk : k ≤ xs.length) : (progTo xs k).length ≤ 71 * k := by
  induction k with
  | zero => simp [progTo]
  | succ k ih =>
    have := ih (by omega)
    have := insText_len _ (h k (by omega))
    simp only [progTo, List.length_append]
    generalize (insText (xs.getD k q0)).length = z at *
    split <;> simp <;> omega

theorem progTo_first (xs : List Q4) (k : Nat) (h : k = 0) : progTo xs (k + 1) = progTo xs k ++ insText (xs.getD k q0) := by subst h; simp [progTo]
theorem progTo_next (xs : List Q4) (k : Nat) (h : k ≠ 0) : progTo xs (k + 1) = (progTo xs k ++ [44]) ++ insText (xs.getD k q0) := by simp [progTo, h]
end Go.Proofs.YtbcnmmofccackaaGreatDoor.Own
