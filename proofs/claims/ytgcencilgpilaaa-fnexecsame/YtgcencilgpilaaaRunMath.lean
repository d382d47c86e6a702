/-
  Own text: what a run does: plain mathematics. Nothing of the program.
-/
import Derived.Test.YtgcencilgpilaaaExecOkS
import Derived.Test.YtgcencilgpilaaaProgOk2
namespace Go.Proofs.Ytgcencilgpilaaa.Own
open Go.RowKit

/-- A run under way: the registers, what it looked into, what it would put, its code. -/
structure RunSt where
  regs : List Int
  reads : List P2
  puts : List P2
  code : Int

def hasBox (ys : List P2) (j : Nat) : Bool := ys.any fun p => p.1 == (j : Int)
def idxBox (ys : List P2) (j : Nat) : Nat := ys.findIdx fun p => p.1 == (j : Int)
/-- What is in a box for a run. -/
def inBox (bs ys : List P2) (j : Nat) : Int := if hasBox ys j then (ys.getD (idxBox ys j) (0, 0)).2 else (bs.getD j (0, 0)).2
/-- What it has looked into, when it has looked there. -/
def lookR (bs xs ys : List P2) (j : Nat) : List P2 := if hasBox ys j then xs else if hasBox xs j then xs else xs ++ [((j : Int), (bs.getD j (0, 0)).1)]
/-- What it would put, when n is put there. -/
def putP (ys : List P2) (j : Nat) (n : Int) : List P2 := if hasBox ys j then ys.set (idxBox ys j) ((ys.getD (idxBox ys j) (0, 0)).1, n) else ys ++ [((j : Int), n)]

def setReg (s : RunSt) (a : Nat) (n : Int) : RunSt := { s with regs := s.regs.set a n, code := if numOk n then s.code else 2 }
/-- An instruction that is no ProgLess. -/
def stepR (bs : List P2) (s : RunSt) (p : Q4) : RunSt :=
  if p.1 = 1 then setReg { s with reads := lookR bs s.reads s.puts p.2.2.1.toNat } p.2.1.toNat (inBox bs s.puts p.2.2.1.toNat)
  else if p.1 = 2 then { s with puts := putP s.puts p.2.1.toNat (s.regs.getD p.2.2.1.toNat 0) }
  else if p.1 = 3 then setReg s p.2.1.toNat p.2.2.2
  else if p.1 = 4 then setReg s p.2.1.toNat (s.regs.getD p.2.1.toNat 0 + s.regs.getD p.2.2.1.toNat 0)
  else if p.1 = 5 then setReg s p.2.1.toNat (s.regs.getD p.2.1.toNat 0 - s.regs.getD p.2.2.1.toNat 0)
  else { s with code := 1 }
/-- A run from instruction k on. -/
def runR (bs : List P2) (xs : List Q4) (k : Nat) (s : RunSt) : RunSt :=
  if h : k < xs.length then
    if s.code = 0 then
      if (xs.getD k q0).1 = 6 then
        if s.regs.getD (xs.getD k q0).2.1.toNat 0 < s.regs.getD (xs.getD k q0).2.2.1.toNat 0 then runR bs xs (k + (xs.getD k q0).2.2.2.toNat + 1) s else runR bs xs (k + 1) s
      else runR bs xs (k + 1) (stepR bs s (xs.getD k q0))
    else s
  else s
termination_by xs.length - k

structure RunOut where
  reads : List P2
  puts : List P2
  val : Int
  code : Int
def outR (s : RunSt) : RunOut := if s.code = 0 then ⟨s.reads, s.puts, s.regs.getD 0 0, 0⟩ else ⟨s.reads, [], 0, s.code⟩
def initR : RunSt := ⟨[0, 0, 0, 0], [], [], 0⟩
/-- What a run says. -/
def execRun (bs : List P2) (xs : List Q4) : RunOut := if boxOk bs && progOk xs then outR (runR bs xs 0 initR) else ⟨[], [], 0, 3⟩

theorem place_idx (ys : List P2) (j : Nat) (h : hasBox ys j = true) : placeOf ys (j : Int) = ((idxBox ys j : Nat) : Int) ∧ idxBox ys j < ys.length := by
  refine ⟨if_pos h, ?_⟩
  unfold hasBox at h
  rw [List.any_eq_true] at h
  obtain ⟨x, hx, hp⟩ := h
  exact List.findIdx_lt_length_of_exists ⟨x, hx, hp⟩
theorem place_no (ys : List P2) (j : Nat) (h : hasBox ys j = false) : placeOf ys (j : Int) = -1 := placeOf_none h
end Go.Proofs.Ytgcencilgpilaaa.Own
