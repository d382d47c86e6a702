/-
  Own text: what spec.l3Saw, l3At and spec.ExecOk do.
-/
import Derived.Test.YtbbbfnfpmaogoaaExecMath
import Derived.Test.YtbbbfnfpmaogoaaInsOkS
import Derived.BigQuiet
import Derived.Deep.QuietTactic
namespace Go.Proofs.Ytbbbfnfpmaogoaa.Own
open Go.RowKit
set_option linter.unusedVariables false
set_option linter.unusedSimpArgs false

theorem any_take_succP {xs : List P2} {k : Nat} (n : Int) (h : k < xs.length) : ((xs.take (k + 1)).any fun p => p.1 == n) = (((xs.take k).any fun p => p.1 == n) || (xs.getD k (0, 0)).1 == n) := by
  rw [List.take_succ_eq_append_getElem h, List.any_append]
  simp [List.getD, h]
theorem any_at {xs : List P2} {k : Nat} {n : Int} (h : k < xs.length) (e : ((xs.getD k (0, 0)).1 == n) = true) : (xs.any fun p => p.1 == n) = true := by
  rw [List.any_eq_true]
  exact ⟨xs.getD k (0, 0), by simp [List.getD, h], e⟩

set_option maxRecDepth 100000 in
set_option maxHeartbeats 1000000 in
theorem l3Saw (a : Option Addr) (c n : Nat) (xs : List P2) (z : Int) (w : World) (h : Sl w a xs) (hl : xs.length = n) (hn : n ≤ 2 ^ 40) :
    Calls Try.prog 146 #[.slice a n c, .int .i64 z] w fun e w' => e = .returned (.bool (xs.any fun p => p.1 == z)) ∧ w' = w := by
  subst hl
  have H1 : Hid (Sl w a xs) := h
  clear h
  go_enter Try.func146, Try.ntmps146
  go_wp2
  go_loop [5] (fun i => ∃ k : Nat, k ≤ xs.length ∧ i = .int .i64 k ∧ Hid (((xs.take k).any fun p => p.1 == z) = false)) (fun i => xs.length - (intOf i).toNat)
  case atStart => exact ⟨0, Nat.zero_le _, rfl, rfl⟩
  case round =>
    obtain ⟨k, hk, rfl, hA⟩ := hrel
    by_cases hlt : k < xs.length
    · rcases H1.out with h | ⟨b1, o1, rfl, h1⟩
      · subst h; simp at hlt
      obtain ⟨ca, cb⟩ := h1.2 k hlt
      have HT : Hid (((xs.take (k + 1)).any fun p => p.1 == z) = (((xs.take k).any fun p => p.1 == z) || (xs.getD k (0, 0)).1 == z)) := any_take_succP z hlt
      have HY : Hid (((xs.getD k (0, 0)).1 == z) = true → (xs.any fun p => p.1 == z) = true) := any_at hlt
      obtain ⟨p, hp⟩ : ∃ p, p = (xs.getD k (0, 0)).1 := ⟨_, rfl⟩
      rw [← hp] at ca
      have HP : Hid (p = (xs.getD k (0, 0)).1) := hp
      clear hp h1 cb
      cases t : (p == z) with
      | true =>
        have Y : Hid ((xs.any fun p => p.1 == z) = true) := HY.out (by rw [← HP.out]; exact t)
        clear HY HT
        go_wp2
        go_ret
        exact ⟨ret_bool Y.out.symm, rfl⟩
      | false =>
        have N : Hid (((xs.take (k + 1)).any fun p => p.1 == z) = false) := by show _ = _; rw [HT.out, hA.out, ← HP.out, t]; rfl
        clear HY HT
        go_wp2
        go_round
        case rel => exact ⟨k + 1, by omega, by go_num, N⟩
        case measure => simp [intOf]; omega
    · go_wp2
      go_ret
      have : k = xs.length := by omega
      subst this
      have h := hA.out
      rw [List.take_length] at h
      exact ⟨ret_bool h.symm, rfl⟩

/-- The place of a box among what is put, or -1. -/
def placeOf (xs : List P2) (z : Int) : Int := if (xs.any fun p => p.1 == z) then ((xs.findIdx fun p => p.1 == z) : Nat) else -1

theorem placeOf_at {xs : List P2} {k : Nat} {z : Int} (h : k < xs.length) (e : ((xs.getD k (0, 0)).1 == z) = true) (h0 : ((xs.take k).any fun p => p.1 == z) = false) : placeOf xs z = k := by
  unfold placeOf
  rw [if_pos (any_at h e)]
  have : xs.findIdx (fun p => p.1 == z) = k := by
    rw [List.findIdx_eq h]
    refine ⟨by simpa [List.getD, h] using e, fun j hj => ?_⟩
    rw [List.any_eq_false] at h0
    have := h0 (xs[j]'(by omega)) (by rw [List.mem_take_iff_getElem]; exact ⟨j, by omega, rfl⟩)
    simpa using this
  rw [this]
theorem placeOf_none {xs : List P2} {z : Int} (h : (xs.any fun p => p.1 == z) = false) : placeOf xs z = -1 := by
  simp [placeOf, h]
theorem placeOf_neg (xs : List P2) (z : Int) : decide (placeOf xs z ≥ 0) = (xs.any fun p => p.1 == z) := by
  unfold placeOf
  cases h : (xs.any fun p => p.1 == z) with
  | true => simp
  | false => simp

set_option maxRecDepth 100000 in
set_option maxHeartbeats 1000000 in
theorem l3At (a : Option Addr) (c n : Nat) (xs : List P2) (z : Int) (w : World) (h : Sl w a xs) (hl : xs.length = n) (hn : n ≤ 2 ^ 40) :
    Calls Try.prog 147 #[.slice a n c, .int .i64 z] w fun e w' => e = .returned (.int .i64 (placeOf xs z)) ∧ w' = w := by
  subst hl
  have H1 : Hid (Sl w a xs) := h
  clear h
  go_enter Try.func147, Try.ntmps147
  go_wp2
  go_loop [5] (fun i => ∃ k : Nat, k ≤ xs.length ∧ i = .int .i64 k ∧ Hid (((xs.take k).any fun p => p.1 == z) = false)) (fun i => xs.length - (intOf i).toNat)
  case atStart => exact ⟨0, Nat.zero_le _, rfl, rfl⟩
  case round =>
    obtain ⟨k, hk, rfl, hA⟩ := hrel
    by_cases hlt : k < xs.length
    · rcases H1.out with h | ⟨b1, o1, rfl, h1⟩
      · subst h; simp at hlt
      obtain ⟨ca, cb⟩ := h1.2 k hlt
      have HT : Hid (((xs.take (k + 1)).any fun p => p.1 == z) = (((xs.take k).any fun p => p.1 == z) || (xs.getD k (0, 0)).1 == z)) := any_take_succP z hlt
      have HY : Hid (((xs.getD k (0, 0)).1 == z) = true → placeOf xs z = k) := fun e => placeOf_at hlt e hA.out
      obtain ⟨p, hp⟩ : ∃ p, p = (xs.getD k (0, 0)).1 := ⟨_, rfl⟩
      rw [← hp] at ca
      have HP : Hid (p = (xs.getD k (0, 0)).1) := hp
      clear hp h1 cb
      cases t : (p == z) with
      | true =>
        have Y : Hid (placeOf xs z = k) := HY.out (by rw [← HP.out]; exact t)
        clear HY HT
        go_wp2
        go_ret
        exact ⟨ret_int Y.out.symm, rfl⟩
      | false =>
        have N : Hid (((xs.take (k + 1)).any fun p => p.1 == z) = false) := by show _ = _; rw [HT.out, hA.out, ← HP.out, t]; rfl
        clear HY HT
        go_wp2
        go_round
        case rel => exact ⟨k + 1, by omega, by go_num, N⟩
        case measure => simp [intOf]; omega
    · go_wp2
      go_ret
      have : k = xs.length := by omega
      subst this
      have h := hA.out
      rw [List.take_length] at h
      exact ⟨ret_int (placeOf_none h).symm, rfl⟩
end Go.Proofs.Ytbbbfnfpmaogoaa.Own
