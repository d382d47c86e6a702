/-
  Own texts, bundled: ExecOkS, RunMath, Touch, RunFacts.
-/
import Derived.Test.YtbecdihfopjlhaaGreatDoorPk3
import Derived.Test.YtbecdihfopjlhaaGreatDoorPk12
import Derived.BigQuiet
import Derived.Deep.QuietTactic
import Derived.Test.YtbecdihfopjlhaaGreatDoorPk2
import Derived.Test.YtbecdihfopjlhaaGreatDoorPk5
namespace Go.Proofs.YtbecdihfopjlhaaGreatDoor.Own
open Go.RowKit
set_option linter.unusedVariables false
set_option linter.unusedSimpArgs false

theorem any_take_succP {xs : List P2} {k : Nat} (n : Int) (h : k < xs.length) : ((xs.take (k + 1)).any fun p => p.1 == n) = (((xs.take k).any fun p => p.1 == n) || (xs.getD k (0, 0)).1 == n) := by
  rw [List.take_succ_eq_append_getElem h, List.any_append]
  simp [List.getD, h]
theorem any_at {xs : List P2} {k : Nat} {n : Int} (h : k < xs.length) (e : ((xs.getD k (0, 0)).1 == n) = true) : (xs.any fun p => p.1 == n) = true := by
  rw [List.any_eq_true]
  exact ⟨xs.getD k (0, 0), by simp [List.getD, h], e⟩

set_option maxRecDepth 100000 in
set_option maxHeartbeats 1000000 in
theorem l3Saw (a : Option Addr) (c n : Nat) (xs : List P2) (z : Int) (w : World) (h : Sl w a xs) (hl : xs.length = n) (hn : n ≤ 2 ^ 40) :
    Calls Tryz.prog 114 #[.slice a n c, .int .i64 z] w fun e w' => e = .returned (.bool (xs.any fun p => p.1 == z)) ∧ w' = w := by
  subst hl
  have H1 : Hid (Sl w a xs) := h
  clear h
  go_enter Tryz.func114, Tryz.ntmps114
  go_wp2
  go_loop [5] (fun i => ∃ k : Nat, k ≤ xs.length ∧ i = .int .i64 k ∧ Hid (((xs.take k).any fun p => p.1 == z) = false)) (fun i => xs.length - (intOf i).toNat)
  case atStart => exact ⟨0, Nat.zero_le _, rfl, rfl⟩
  case round =>
    obtain ⟨k, hk, rfl, hA⟩ := hrel
    by_cases hlt : k < xs.length
    · rcases H1.out with h | ⟨b1, o1, rfl, h1⟩
      · subst h; simp at hlt
      obtain ⟨ca, cb⟩ := h1.2 k hlt
      have HT : Hid (((xs.take (k + 1)).any fun p => p.1 == z) = (((xs.take k).any fun p => p.1 == z) || (xs.getD k (0, 0)).1 == z)) := any_take_succP z hlt
      have HY : Hid (((xs.getD k (0, 0)).1 == z) = true → (xs.any fun p => p.1 == z) = true) := any_at hlt
      obtain ⟨p, hp⟩ : ∃ p, p = (xs.getD k (0, 0)).1 := ⟨_, rfl⟩
      rw [← hp] at ca
      have HP : Hid (p = (xs.getD k (0, 0)).1) := hp
      clear hp h1 cb
      cases t : (p == z) with
      | true =>
        have Y : Hid ((xs.any fun p => p.1 == z) = true) := HY.out (by rw [← HP.out]; exact t)
        clear HY HT
        go_wp2
        go_ret
        exact ⟨ret_bool Y.out.symm, rfl⟩
      | false =>
        have N : Hid (((xs.take (k + 1)).any fun p => p.1 == z) = false) := by show _ = _; rw [HT.out, hA.out, ← HP.out, t]; rfl
        clear HY HT
        go_wp2
        go_round
        case rel => exact ⟨k + 1, by omega, by go_num, N⟩
        case measure => simp [intOf]; omega
    · go_wp2
      go_ret
      have : k = xs.length := by omega
      subst this
      have h := hA.out
      rw [List.take_length] at h
      exact ⟨ret_bool h.symm, rfl⟩

/-- The place of a box among what is put, or -1. -/
def placeOf (xs : List P2) (z : Int) : Int := if (xs.any fun p => p.1 == z) then ((xs.findIdx fun p => p.1 == z) : Nat) else -1

theorem placeOf_at {xs : List P2} {k : Nat} {z : Int} (h : k < xs.length) (e : ((xs.getD k (0, 0)).1 == z) = true) (h0 : ((xs.take k).any fun p => p.1 == z) = false) : placeOf xs z = k := by
  unfold placeOf
  rw [if_pos (any_at h e)]
  have : xs.findIdx (fun p => p.1 == z) = k := by
    rw [List.findIdx_eq h]
    refine ⟨by simpa [List.getD, h] using e, fun j hj => ?_⟩
    rw [List.any_eq_false] at h0
    have := h0 (xs[j]'(by omega)) (by rw [List.mem_take_iff_getElem]; exact ⟨j, by omega, rfl⟩)
    simpa using this
  rw [this]
theorem placeOf_none {xs : List P2} {z : Int} (h : (xs.any fun p => p.1 == z) = false) : placeOf xs z = -1 := by
  simp [placeOf, h]
theorem placeOf_neg (xs : List P2) (z : Int) : decide (placeOf xs z ≥ 0) = (xs.any fun p => p.1 == z) := by
  unfold placeOf
  cases h : (xs.any fun p => p.1 == z) with
  | true => simp
  | false => simp

set_option maxRecDepth 100000 in
set_option maxHeartbeats 1000000 in
theorem l3At (a : Option Addr) (c n : Nat) (xs : List P2) (z : Int) (w : World) (h : Sl w a xs) (hl : xs.length = n) (hn : n ≤ 2 ^ 40) :
    Calls Tryz.prog 115 #[.slice a n c, .int .i64 z] w fun e w' => e = .returned (.int .i64 (placeOf xs z)) ∧ w' = w := by
  subst hl
  have H1 : Hid (Sl w a xs) := h
  clear h
  go_enter Tryz.func115, Tryz.ntmps115
  go_wp2
  go_loop [5] (fun i => ∃ k : Nat, k ≤ xs.length ∧ i = .int .i64 k ∧ Hid (((xs.take k).any fun p => p.1 == z) = false)) (fun i => xs.length - (intOf i).toNat)
  case atStart => exact ⟨0, Nat.zero_le _, rfl, rfl⟩
  case round =>
    obtain ⟨k, hk, rfl, hA⟩ := hrel
    by_cases hlt : k < xs.length
    · rcases H1.out with h | ⟨b1, o1, rfl, h1⟩
      · subst h; simp at hlt
      obtain ⟨ca, cb⟩ := h1.2 k hlt
      have HT : Hid (((xs.take (k + 1)).any fun p => p.1 == z) = (((xs.take k).any fun p => p.1 == z) || (xs.getD k (0, 0)).1 == z)) := any_take_succP z hlt
      have HY : Hid (((xs.getD k (0, 0)).1 == z) = true → placeOf xs z = k) := fun e => placeOf_at hlt e hA.out
      obtain ⟨p, hp⟩ : ∃ p, p = (xs.getD k (0, 0)).1 := ⟨_, rfl⟩
      rw [← hp] at ca
      have HP : Hid (p = (xs.getD k (0, 0)).1) := hp
      clear hp h1 cb
      cases t : (p == z) with
      | true =>
        have Y : Hid (placeOf xs z = k) := HY.out (by rw [← HP.out]; exact t)
        clear HY HT
        go_wp2
        go_ret
        exact ⟨ret_int Y.out.symm, rfl⟩
      | false =>
        have N : Hid (((xs.take (k + 1)).any fun p => p.1 == z) = false) := by show _ = _; rw [HT.out, hA.out, ← HP.out, t]; rfl
        clear HY HT
        go_wp2
        go_round
        case rel => exact ⟨k + 1, by omega, by go_num, N⟩
        case measure => simp [intOf]; omega
    · go_wp2
      go_ret
      have : k = xs.length := by omega
      subst this
      have h := hA.out
      rw [List.take_length] at h
      exact ⟨ret_int (placeOf_none h).symm, rfl⟩
end Go.Proofs.YtbecdihfopjlhaaGreatDoor.Own

namespace Go.Proofs.YtbecdihfopjlhaaGreatDoor.Own
open Go.RowKit

/-- A run under way: the registers, what it looked into, what it would put, its code. -/
structure RunSt where
  regs : List Int
  reads : List P2
  puts : List P2
  code : Int

def hasBox (ys : List P2) (j : Nat) : Bool := ys.any fun p => p.1 == (j : Int)
def idxBox (ys : List P2) (j : Nat) : Nat := ys.findIdx fun p => p.1 == (j : Int)
/-- What is in a box for a run. -/
def inBox (bs ys : List P2) (j : Nat) : Int := if hasBox ys j then (ys.getD (idxBox ys j) (0, 0)).2 else (bs.getD j (0, 0)).2
/-- What it has looked into, when it has looked there. -/
def lookR (bs xs ys : List P2) (j : Nat) : List P2 := if hasBox ys j then xs else if hasBox xs j then xs else xs ++ [((j : Int), (bs.getD j (0, 0)).1)]
/-- What it would put, when n is put there. -/
def putP (ys : List P2) (j : Nat) (n : Int) : List P2 := if hasBox ys j then ys.set (idxBox ys j) ((ys.getD (idxBox ys j) (0, 0)).1, n) else ys ++ [((j : Int), n)]

def setReg (s : RunSt) (a : Nat) (n : Int) : RunSt := { s with regs := s.regs.set a n, code := if numOk n then s.code else 2 }
/-- An instruction that is no ProgLess. -/
def stepR (bs : List P2) (s : RunSt) (p : Q4) : RunSt :=
  if p.1 = 1 then setReg { s with reads := lookR bs s.reads s.puts p.2.2.1.toNat } p.2.1.toNat (inBox bs s.puts p.2.2.1.toNat)
  else if p.1 = 2 then { s with puts := putP s.puts p.2.1.toNat (s.regs.getD p.2.2.1.toNat 0) }
  else if p.1 = 3 then setReg s p.2.1.toNat p.2.2.2
  else if p.1 = 4 then setReg s p.2.1.toNat (s.regs.getD p.2.1.toNat 0 + s.regs.getD p.2.2.1.toNat 0)
  else if p.1 = 5 then setReg s p.2.1.toNat (s.regs.getD p.2.1.toNat 0 - s.regs.getD p.2.2.1.toNat 0)
  else { s with code := 1 }
/-- A run from instruction k on. -/
def runR (bs : List P2) (xs : List Q4) (k : Nat) (s : RunSt) : RunSt :=
  if h : k < xs.length then
    if s.code = 0 then
      if (xs.getD k q0).1 = 6 then
        if s.regs.getD (xs.getD k q0).2.1.toNat 0 < s.regs.getD (xs.getD k q0).2.2.1.toNat 0 then runR bs xs (k + (xs.getD k q0).2.2.2.toNat + 1) s else runR bs xs (k + 1) s
      else runR bs xs (k + 1) (stepR bs s (xs.getD k q0))
    else s
  else s
termination_by xs.length - k

structure RunOut where
  reads : List P2
  puts : List P2
  val : Int
  code : Int
def outR (s : RunSt) : RunOut := if s.code = 0 then ⟨s.reads, s.puts, s.regs.getD 0 0, 0⟩ else ⟨s.reads, [], 0, s.code⟩
def initR : RunSt := ⟨[0, 0, 0, 0], [], [], 0⟩
/-- What a run says. -/
def execRun (bs : List P2) (xs : List Q4) : RunOut := if boxOk bs && progOk xs then outR (runR bs xs 0 initR) else ⟨[], [], 0, 3⟩

theorem place_idx (ys : List P2) (j : Nat) (h : hasBox ys j = true) : placeOf ys (j : Int) = ((idxBox ys j : Nat) : Int) ∧ idxBox ys j < ys.length := by
  refine ⟨if_pos h, ?_⟩
  unfold hasBox at h
  rw [List.any_eq_true] at h
  obtain ⟨x, hx, hp⟩ := h
  exact List.findIdx_lt_length_of_exists ⟨x, hx, hp⟩
theorem place_no (ys : List P2) (j : Nat) (h : hasBox ys j = false) : placeOf ys (j : Int) = -1 := placeOf_none h
end Go.Proofs.YtbecdihfopjlhaaGreatDoor.Own

namespace Go.Proofs.YtbecdihfopjlhaaGreatDoor.Own
open Go.RowKit
set_option linter.unusedVariables false

def loadsQ (p : Q4) (b : Int) : Bool := p.1 == 1 && p.2.2.1 == b
def putsQ (p : Q4) (b : Int) : Bool := p.1 == 2 && p.2.1 == b
/-- Of the first k boxes those that are met, ascending. -/
def boxesTo (f : Q4 → Int → Bool) (xs : List Q4) : Nat → List Int
  | 0 => []
  | k + 1 => boxesTo f xs k ++ (if xs.any (fun p => f p (k : Int)) then [(k : Int)] else [])

theorem boxesTo_len (f : Q4 → Int → Bool) (xs : List Q4) (k : Nat) : (boxesTo f xs k).length ≤ k := by
  induction k with
  | zero => simp [boxesTo]
  | succ k ih => simp only [boxesTo, List.length_append]; split <;> simp <;> omega

theorem any_take_succ {α : Type} {p : α → Bool} {xs : List α} {k : Nat} (d : α) (h : k < xs.length) : (xs.take (k + 1)).any p = ((xs.take k).any p || p (xs.getD k d)) := by
  rw [List.take_succ_eq_append_getElem h, List.any_append]
  simp only [List.any_cons, List.any_nil, Bool.or_false, List.getD_eq_getElem?_getD, List.getElem?_eq_getElem h, Option.getD_some]

theorem any_true {α : Type} {p : α → Bool} {xs : List α} {k : Nat} (d : α) (h : k < xs.length) (hp : p (xs.getD k d) = true) : xs.any p = true := by
  rw [List.any_eq_true]
  exact ⟨xs.getD k d, by simp [List.getD, h], hp⟩

/-- Rows that lie below n₀. -/
def Sl4b (n₀ : Nat) (w : World) (a : Option Addr) (xs : List Q4) : Prop := xs = [] ∨ ∃ b off, a = some ⟨b, off, none⟩ ∧ b < n₀ ∧ At4 w b off xs
theorem Sl4b.below {n₀ : Nat} {w w' : World} {a : Option Addr} {xs : List Q4} (h : Sl4b n₀ w a xs) (hb : Below n₀ w w') : Sl4b n₀ w' a xs := by
  rcases h with h | ⟨b, off, rfl, hlt, h⟩
  · exact .inl h
  · exact .inr ⟨b, off, rfl, hlt, h.belowAt hb hlt⟩
theorem Sl4b.sl {n₀ : Nat} {w : World} {a : Option Addr} {xs : List Q4} (h : Sl4b n₀ w a xs) : Sl4 w a xs := by
  rcases h with h | ⟨b, off, rfl, hlt, h⟩
  · exact .inl h
  · exact .inr ⟨b, off, rfl, h⟩
theorem Sl4.at {w : World} {a : Option Addr} {xs : List Q4} (h : Sl4 w a xs) : Sl4b w.heap.size w a xs := by
  rcases h with h | ⟨b, off, rfl, h⟩
  · exact .inl h
  · exact .inr ⟨b, off, rfl, h.1, h⟩
theorem grownBy_of_below {w w' : World} (h : Below w.heap.size w w') : w.grownBy w' none := ⟨h.os, h.tape, h.output, h.size, fun k hk _ => h.block k hk⟩
theorem ownsRow_lower {w : World} {B B' e s n : Nat} {v : Value} {xs : List Value} (h : w.ownsRow B e s v n xs) (hB : B' ≤ B) : w.ownsRow B' e s v n xs := by
  obtain ⟨h1, h2⟩ := h
  refine ⟨h1, ?_⟩
  rcases h2 with h2 | ⟨g, cap, cur, hv, hg, r⟩
  · exact .inl h2
  · exact .inr ⟨g, cap, cur, hv, Nat.le_trans hB hg, r⟩
end Go.Proofs.YtbecdihfopjlhaaGreatDoor.Own

namespace Go.Proofs.YtbecdihfopjlhaaGreatDoor.Own
open Go.RowKit
set_option linter.unusedVariables false

theorem run_jump {bs : List P2} {xs : List Q4} {k : Nat} {s : RunSt} (hk : k < xs.length) (hc : s.code = 0) (h6 : (xs.getD k q0).1 = 6) (hl : s.regs.getD (xs.getD k q0).2.1.toNat 0 < s.regs.getD (xs.getD k q0).2.2.1.toNat 0) : runR bs xs k s = runR bs xs (k + (xs.getD k q0).2.2.2.toNat + 1) s := by
  rw [runR, dif_pos hk, if_pos hc, if_pos h6, if_pos hl]
theorem run_go {bs : List P2} {xs : List Q4} {k : Nat} {s : RunSt} (hk : k < xs.length) (hc : s.code = 0) (h6 : (xs.getD k q0).1 = 6) (hl : ¬ s.regs.getD (xs.getD k q0).2.1.toNat 0 < s.regs.getD (xs.getD k q0).2.2.1.toNat 0) : runR bs xs k s = runR bs xs (k + 1) s := by
  rw [runR, dif_pos hk, if_pos hc, if_pos h6, if_neg hl]
theorem run_step {bs : List P2} {xs : List Q4} {k : Nat} {s : RunSt} (hk : k < xs.length) (hc : s.code = 0) (h6 : ¬ (xs.getD k q0).1 = 6) : runR bs xs k s = runR bs xs (k + 1) (stepR bs s (xs.getD k q0)) := by
  rw [runR, dif_pos hk, if_pos hc, if_neg h6]
theorem run_stop {bs : List P2} {xs : List Q4} {k : Nat} {s : RunSt} (hc : ¬ s.code = 0) : runR bs xs k s = s := by
  rw [runR]
  by_cases hk : k < xs.length
  · rw [dif_pos hk, if_neg hc]
  · rw [dif_neg hk]
theorem run_end {bs : List P2} {xs : List Q4} {k : Nat} {s : RunSt} (hk : ¬ k < xs.length) : runR bs xs k s = s := by
  rw [runR, dif_neg hk]

/-- What holds of a run at each of its instructions. -/
structure Inv (bs : List P2) (xs : List Q4) (s : RunSt) : Prop where
  four : s.regs.length = 4
  num : s.code = 0 → ∀ i, i < 4 → numOk (s.regs.getD i 0) = true
  code : s.code = 0 ∨ s.code = 1 ∨ s.code = 2
  rd : ∀ p, p ∈ s.reads → ∃ j : Nat, j < 4 ∧ p = ((j : Int), (bs.getD j (0, 0)).1) ∧ xs.any (fun q => loadsQ q (j : Int)) = true
  rdN : (s.reads.map Prod.fst).Nodup
  pt : ∀ p, p ∈ s.puts → ∃ j : Nat, j < 4 ∧ p.1 = (j : Int) ∧ numOk p.2 = true ∧ xs.any (fun q => putsQ q (j : Int)) = true
  ptN : (s.puts.map Prod.fst).Nodup

theorem hasBox_iff {ys : List P2} {j : Nat} : hasBox ys j = true ↔ (j : Int) ∈ ys.map Prod.fst := by
  simp [hasBox, List.any_eq_true]
theorem hasBox_no {ys : List P2} {j : Nat} : hasBox ys j = false ↔ (j : Int) ∉ ys.map Prod.fst := by
  rw [← Bool.not_eq_true, hasBox_iff]
theorem nodup_snoc {l : List Int} {x : Int} (h : l.Nodup) (hx : x ∉ l) : (l ++ [x]).Nodup := by
  rw [List.nodup_append]
  refine ⟨h, by simp, fun a ha b hb e => ?_⟩
  simp at hb
  subst hb e
  exact hx ha
theorem idx_lt {ys : List P2} {j : Nat} (h : hasBox ys j = true) : idxBox ys j < ys.length := by
  unfold hasBox at h
  rw [List.any_eq_true] at h
  obtain ⟨x, hx, hp⟩ := h
  exact List.findIdx_lt_length_of_exists ⟨x, hx, hp⟩
theorem idx_at {ys : List P2} {j : Nat} (h : hasBox ys j = true) : (ys.getD (idxBox ys j) (0, 0)).1 = (j : Int) := by
  have hl := idx_lt h
  have := List.findIdx_getElem (p := fun p : P2 => p.1 == (j : Int)) (xs := ys) (w := hl)
  rw [List.getD_eq_getElem?_getD, List.getElem?_eq_getElem hl]
  simp only [beq_iff_eq] at this
  exact this
theorem putP_fst (ys : List P2) (j : Nat) (n : Int) : (putP ys j n).map Prod.fst = if hasBox ys j then ys.map Prod.fst else ys.map Prod.fst ++ [(j : Int)] := by
  unfold putP
  cases h : hasBox ys j with
  | false => simp
  | true =>
    simp only [if_true]
    apply List.ext_getElem?
    intro i
    simp only [List.getElem?_map, List.getElem?_set]
    have hl := idx_lt h
    by_cases e : idxBox ys j = i
    · subst e
      simp [hl, List.getD]
    · simp [e]
theorem putP_mem {ys : List P2} {j : Nat} {n : Int} {p : P2} (hp : p ∈ putP ys j n) : p ∈ ys ∨ p = ((j : Int), n) := by
  unfold putP at hp
  cases h : hasBox ys j with
  | false => rw [h] at hp; simpa using hp
  | true =>
    rw [h] at hp
    simp only [if_true] at hp
    rcases List.mem_or_eq_of_mem_set hp with h' | h'
    · exact .inl h'
    · rw [idx_at h] at h'; exact .inr h'

theorem numOk_eq : numOk2 = numOk := rfl
theorem getD_setI (xs : List Int) (i j : Nat) (v : Int) (hi : i < xs.length) : (xs.set i v).getD j 0 = if i = j then v else xs.getD j 0 := by
  simp only [List.getD_eq_getElem?_getD, List.getElem?_set]
  by_cases e : i = j
  · simp [e, show j < xs.length by omega]
  · simp [e]

theorem Inv.setReg {bs : List P2} {xs : List Q4} {s : RunSt} (h : Inv bs xs s) (hc : s.code = 0) (a : Nat) (ha : a < 4) (n : Int) : Inv bs xs (setReg s a n) := by
  refine ⟨by simp [Own.setReg, h.four], fun hc' i hi => ?_, ?_, h.rd, h.rdN, h.pt, h.ptN⟩
  · simp only [Own.setReg] at hc' ⊢
    rw [getD_setI _ _ _ _ (by rw [h.four]; exact ha)]
    by_cases e : a = i
    · rw [if_pos e]
      cases hn : numOk n with
      | true => rfl
      | false => rw [hn] at hc'; simp at hc'
    · rw [if_neg e]; exact h.num hc i hi
  · simp only [Own.setReg]
    split
    · exact h.code
    · simp

theorem lookR_cases (bs xs ys : List P2) (j : Nat) : lookR bs xs ys j = xs ∨ (hasBox ys j = false ∧ hasBox xs j = false ∧ lookR bs xs ys j = xs ++ [((j : Int), (bs.getD j (0, 0)).1)]) := by
  unfold lookR
  cases hasBox ys j <;> cases hasBox xs j <;> simp

theorem Inv.step {bs : List P2} {xs : List Q4} {s : RunSt} (h : Inv bs xs s) (hc : s.code = 0) (p : Q4) (hp : insOk p = true) (hm : p ∈ xs) (h6 : p.1 ≠ 6) : Inv bs xs (stepR bs s p) := by
  obtain ⟨kd, a, b, n⟩ := p
  simp only [stepR]
  split
  · rename_i e; subst e
    rw [insOk_1] at hp
    simp only [Bool.and_eq_true] at hp
    obtain ⟨na, hna, rfl⟩ := regOk_nat hp.1.1
    obtain ⟨nb, hnb, rfl⟩ := regOk_nat hp.1.2
    simp only [Int.toNat_natCast]
    have h' : Inv bs xs { s with reads := lookR bs s.reads s.puts nb } := by
      refine ⟨h.four, h.num, h.code, fun p hp' => ?_, ?_, h.pt, h.ptN⟩
      · rcases lookR_cases bs s.reads s.puts nb with e | ⟨_, _, e⟩
        · simp only [e] at hp'; exact h.rd p hp'
        · simp only [e, List.mem_append, List.mem_singleton] at hp'
          rcases hp' with hp' | rfl
          · exact h.rd p hp'
          · exact ⟨nb, hnb, rfl, by rw [List.any_eq_true]; exact ⟨_, hm, by simp [loadsQ]⟩⟩
      · rcases lookR_cases bs s.reads s.puts nb with e | ⟨_, h2, e⟩
        · simp only [e]; exact h.rdN
        · simp only [e, List.map_append, List.map_cons, List.map_nil]
          exact nodup_snoc h.rdN (hasBox_no.1 h2)
    exact h'.setReg hc na hna _
  split
  · rename_i e; subst e
    rw [insOk_2] at hp
    simp only [Bool.and_eq_true] at hp
    obtain ⟨na, hna, rfl⟩ := regOk_nat hp.1.1
    obtain ⟨nb, hnb, rfl⟩ := regOk_nat hp.1.2
    simp only [Int.toNat_natCast]
    refine ⟨h.four, h.num, h.code, h.rd, h.rdN, fun p hp' => ?_, ?_⟩
    · rcases putP_mem hp' with h' | rfl
      · exact h.pt p h'
      · exact ⟨na, hna, rfl, h.num hc nb hnb, by rw [List.any_eq_true]; exact ⟨_, hm, by simp [putsQ]⟩⟩
    · simp only [putP_fst]
      split
      · exact h.ptN
      · rename_i e
        exact nodup_snoc h.ptN (hasBox_no.1 (by simpa using e))
  split
  · rename_i e; subst e
    rw [insOk_3] at hp
    simp only [Bool.and_eq_true] at hp
    obtain ⟨na, hna, rfl⟩ := regOk_nat hp.1.1
    exact h.setReg hc na hna _
  split
  · rename_i e; subst e
    rw [insOk_4] at hp
    simp only [Bool.and_eq_true] at hp
    obtain ⟨na, hna, rfl⟩ := regOk_nat hp.1.1
    exact h.setReg hc na hna _
  split
  · rename_i e; subst e
    rw [insOk_5] at hp
    simp only [Bool.and_eq_true] at hp
    obtain ⟨na, hna, rfl⟩ := regOk_nat hp.1.1
    exact h.setReg hc na hna _
  · exact ⟨h.four, fun e => by simp at e, by simp, h.rd, h.rdN, h.pt, h.ptN⟩

theorem Inv.init (bs : List P2) (xs : List Q4) : Inv bs xs initR := by
  refine ⟨rfl, fun _ i hi => ?_, .inl rfl, fun p hp => by simp [initR] at hp, by simp [initR], fun p hp => by simp [initR] at hp, by simp [initR]⟩
  have : i = 0 ∨ i = 1 ∨ i = 2 ∨ i = 3 := by omega
  rcases this with rfl | rfl | rfl | rfl <;> rfl

theorem getD_mem {xs : List Q4} {k : Nat} (h : k < xs.length) : xs.getD k q0 ∈ xs := by simp [List.getD, h]

theorem Inv.run {bs : List P2} {xs : List Q4} (hx : ∀ p, p ∈ xs → insOk p = true) (k : Nat) (s : RunSt) (h : Inv bs xs s) : Inv bs xs (runR bs xs k s) := by
  induction k, s using runR.induct (xs := xs) (bs := bs) with
  | case1 k s hk hc h6 hl ih => rw [run_jump hk hc h6 hl]; exact ih h
  | case2 k s hk hc h6 hl ih => rw [run_go hk hc h6 hl]; exact ih h
  | case3 k s hk hc h6 ih => rw [run_step hk hc h6]; exact ih (h.step hc _ (hx _ (getD_mem hk)) (getD_mem hk) h6)
  | case4 k s hk hc => rw [run_stop hc]; exact h
  | case5 k s hk => rw [run_end hk]; exact h

/-- The reads only grow. -/
theorem step_reads (bs : List P2) (s : RunSt) (p : Q4) : ∃ r, (stepR bs s p).reads = s.reads ++ r := by
  simp only [stepR]
  split
  · simp only [setReg]
    rcases lookR_cases bs s.reads s.puts p.2.2.1.toNat with e | ⟨_, _, e⟩
    · exact ⟨[], by simp [e]⟩
    · exact ⟨_, e⟩
  repeat' split
  all_goals exact ⟨[], by simp [setReg]⟩
theorem run_reads (bs : List P2) (xs : List Q4) (k : Nat) (s : RunSt) : ∃ r, (runR bs xs k s).reads = s.reads ++ r := by
  induction k, s using runR.induct (xs := xs) (bs := bs) with
  | case1 k s hk hc h6 hl ih => rw [run_jump hk hc h6 hl]; exact ih
  | case2 k s hk hc h6 hl ih => rw [run_go hk hc h6 hl]; exact ih
  | case3 k s hk hc h6 ih =>
    rw [run_step hk hc h6]
    obtain ⟨r, hr⟩ := ih
    obtain ⟨r', hr'⟩ := step_reads bs s (xs.getD k q0)
    exact ⟨r' ++ r, by rw [hr, hr', List.append_assoc]⟩
  | case4 k s hk hc => rw [run_stop hc]; exact ⟨[], by simp⟩
  | case5 k s hk => rw [run_end hk]; exact ⟨[], by simp⟩

/-- On boxes that are the same where a run looked it is the same. -/
theorem run_same (bs bs' : List P2) (xs : List Q4) (k : Nat) (s : RunSt) (h : ∀ j : Nat, (j : Int) ∈ (runR bs xs k s).reads.map Prod.fst → bs'.getD j (0, 0) = bs.getD j (0, 0)) : runR bs' xs k s = runR bs xs k s := by
  induction k, s using runR.induct (xs := xs) (bs := bs) with
  | case1 k s hk hc h6 hl ih =>
    rw [run_jump hk hc h6 hl] at h
    rw [run_jump hk hc h6 hl, run_jump (bs := bs) hk hc h6 hl, ih h]
  | case2 k s hk hc h6 hl ih =>
    rw [run_go hk hc h6 hl] at h
    rw [run_go hk hc h6 hl, run_go (bs := bs) hk hc h6 hl, ih h]
  | case3 k s hk hc h6 ih =>
    rw [run_step hk hc h6] at h
    have e : stepR bs' s (xs.getD k q0) = stepR bs s (xs.getD k q0) := by
      obtain ⟨r, hr⟩ := run_reads bs xs (k + 1) (stepR bs s (xs.getD k q0))
      rw [hr] at h
      generalize xs.getD k q0 = p at h
      clear hr ih
      unfold stepR at h ⊢
      by_cases h1 : p.1 = 1
      · rw [if_pos h1, if_pos h1]
        rw [if_pos h1] at h
        simp only [setReg] at h
        have hb : hasBox s.puts p.2.2.1.toNat = true ∨ (hasBox s.puts p.2.2.1.toNat = false ∧ bs'.getD p.2.2.1.toNat (0, 0) = bs.getD p.2.2.1.toNat (0, 0)) := by
          cases hp : hasBox s.puts p.2.2.1.toNat with
          | true => exact .inl rfl
          | false =>
            refine .inr ⟨rfl, h _ ?_⟩
            rw [List.map_append, List.mem_append]
            left
            unfold lookR
            rw [hp]
            cases hq : hasBox s.reads p.2.2.1.toNat with
            | true => simpa using hasBox_iff.1 hq
            | false => simp
        rcases hb with hb | ⟨hb, hb'⟩
        · simp only [lookR, inBox, hb, if_true]
        · simp only [lookR, inBox, hb, hb']
      · rw [if_neg h1, if_neg h1]
    rw [run_step hk hc h6, run_step (bs := bs) hk hc h6, e, ih h]
  | case4 k s hk hc => rw [run_stop hc, run_stop hc]
  | case5 k s hk => rw [run_end hk, run_end hk]

/-- The same but for how often boxes were written. -/
structure Alike2 (s t : RunSt) : Prop where
  regs : s.regs = t.regs
  reads : s.reads.map Prod.fst = t.reads.map Prod.fst
  puts : s.puts = t.puts
  code : s.code = t.code

theorem hasBox_map {xs ys : List P2} (h : xs.map Prod.fst = ys.map Prod.fst) (j : Nat) : hasBox xs j = hasBox ys j := by
  cases e : hasBox ys j with
  | true => rw [hasBox_iff, h, ← hasBox_iff]; exact e
  | false => rw [hasBox_no, h, ← hasBox_no]; exact e

theorem step_alike {bs bs' : List P2} {s t : RunSt} (h : Alike2 s t) (p : Q4) (hv : p.1 = 1 → (bs.getD p.2.2.1.toNat (0, 0)).2 = (bs'.getD p.2.2.1.toNat (0, 0)).2) : Alike2 (stepR bs s p) (stepR bs' t p) := by
  obtain ⟨h1, h2, h3, h4⟩ := h
  unfold stepR
  by_cases e1 : p.1 = 1
  · rw [if_pos e1, if_pos e1]
    have hi : inBox bs s.puts p.2.2.1.toNat = inBox bs' t.puts p.2.2.1.toNat := by unfold inBox; rw [h3, hv e1]
    rw [hi]
    refine ⟨by simp only [setReg, h1], ?_, h3, by simp only [setReg, h4]⟩
    simp only [setReg, lookR, h3, hasBox_map h2]
    split
    · exact h2
    split
    · exact h2
    · simp [h2]
  rw [if_neg e1, if_neg e1]
  split
  · exact ⟨h1, h2, by simp only [h1, h3], h4⟩
  split
  · exact ⟨by simp only [setReg, h1], h2, h3, by simp only [setReg, h4]⟩
  split
  · exact ⟨by simp only [setReg, h1], h2, h3, by simp only [setReg, h1, h4]⟩
  split
  · exact ⟨by simp only [setReg, h1], h2, h3, by simp only [setReg, h1, h4]⟩
  · exact ⟨h1, h2, h3, rfl⟩

/-- On boxes of the same numbers, where a program can look, it does the same. -/
theorem run_alike {bs bs' : List P2} {xs : List Q4} (hv : ∀ p, p ∈ xs → p.1 = 1 → (bs.getD p.2.2.1.toNat (0, 0)).2 = (bs'.getD p.2.2.1.toNat (0, 0)).2) (k : Nat) (s t : RunSt) (h : Alike2 s t) : Alike2 (runR bs xs k s) (runR bs' xs k t) := by
  induction k, s using runR.induct (xs := xs) (bs := bs) generalizing t with
  | case1 k s hk hc h6 hl ih =>
    have hc' := hc; have hl' := hl
    rw [h.code] at hc'; rw [h.regs] at hl'
    rw [run_jump hk hc h6 hl, run_jump (bs := bs') hk hc' h6 hl']; exact ih t h
  | case2 k s hk hc h6 hl ih =>
    have hc' := hc; have hl' := hl
    rw [h.code] at hc'; rw [h.regs] at hl'
    rw [run_go hk hc h6 hl, run_go (bs := bs') hk hc' h6 hl']; exact ih t h
  | case3 k s hk hc h6 ih =>
    have hc' := hc
    rw [h.code] at hc'
    rw [run_step hk hc h6, run_step (bs := bs') hk hc' h6]; exact ih _ (step_alike h _ (hv _ (getD_mem hk)))
  | case4 k s hk hc =>
    have hc' := hc
    rw [h.code] at hc'
    rw [run_stop hc, run_stop hc']; exact h
  | case5 k s hk => rw [run_end hk, run_end hk]; exact h

/-- A program that goes on: what it does ahead, and then from some place on. -/
theorem run_append (bs : List P2) (xs zs : List Q4) (k : Nat) (s : RunSt) :
    ∃ e, xs.length ≤ e ∧ runR bs (xs ++ zs) k s = (if (runR bs xs k s).code = 0 then runR bs (xs ++ zs) e (runR bs xs k s) else runR bs xs k s) ∧
      ((∀ i, i < xs.length → (xs.getD i q0).1 = 6 → i + (xs.getD i q0).2.2.2.toNat < xs.length) → k ≤ xs.length → e = xs.length) := by
  have hg : ∀ i, i < xs.length → (xs ++ zs).getD i q0 = xs.getD i q0 := fun i hi => by simp [List.getD, List.getElem?_append_left hi]
  have hl' : ∀ i, i < xs.length → i < (xs ++ zs).length := fun i hi => by simp; omega
  induction k, s using runR.induct (xs := xs) (bs := bs) with
  | case1 k s hk hc h6 hl ih =>
    obtain ⟨e, h1, h2, h3⟩ := ih
    refine ⟨e, h1, ?_, fun hn hk' => h3 hn (by have := hn k hk h6; omega)⟩
    rw [run_jump hk hc h6 hl, ← h2]
    rw [← hg k hk] at h6 hl ⊢
    rw [run_jump (hl' k hk) hc h6 hl]
  | case2 k s hk hc h6 hl ih =>
    obtain ⟨e, h1, h2, h3⟩ := ih
    refine ⟨e, h1, ?_, fun hn hk' => h3 hn (by omega)⟩
    rw [run_go hk hc h6 hl, ← h2]
    rw [← hg k hk] at h6 hl
    rw [run_go (hl' k hk) hc h6 hl]
  | case3 k s hk hc h6 ih =>
    obtain ⟨e, h1, h2, h3⟩ := ih
    refine ⟨e, h1, ?_, fun hn hk' => h3 hn (by omega)⟩
    rw [run_step hk hc h6, ← h2]
    rw [← hg k hk] at h6 ⊢
    rw [run_step (hl' k hk) hc h6]
  | case4 k s hk hc =>
    refine ⟨xs.length, Nat.le_refl _, ?_, fun _ _ => rfl⟩
    rw [run_stop hc, run_stop hc, if_neg hc]
  | case5 k s hk =>
    refine ⟨k, by omega, ?_, fun _ h => by omega⟩
    rw [run_end (xs := xs) hk]
    by_cases hc : s.code = 0
    · rw [if_pos hc]
    · rw [if_neg hc, run_stop hc]
end Go.Proofs.YtbecdihfopjlhaaGreatDoor.Own
