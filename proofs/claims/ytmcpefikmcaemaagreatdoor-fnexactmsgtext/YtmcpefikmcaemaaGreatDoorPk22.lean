/-
  Own texts, bundled: ExecOkS, ExecOkS2.
-/
import Derived.Test.YtmcpefikmcaemaaGreatDoorPk4
import Derived.Test.YtmcpefikmcaemaaGreatDoorPk21
import Derived.BigQuiet
import Derived.Deep.QuietTactic
namespace Go.Proofs.YtmcpefikmcaemaaGreatDoor.Own
open Go.RowKit
set_option linter.unusedVariables false
set_option linter.unusedSimpArgs false

theorem any_take_succP {xs : List P2} {k : Nat} (n : Int) (h : k < xs.length) : ((xs.take (k + 1)).any fun p => p.1 == n) = (((xs.take k).any fun p => p.1 == n) || (xs.getD k (0, 0)).1 == n) := by
  rw [List.take_succ_eq_append_getElem h, List.any_append]
  simp [List.getD, h]
theorem any_at {xs : List P2} {k : Nat} {n : Int} (h : k < xs.length) (e : ((xs.getD k (0, 0)).1 == n) = true) : (xs.any fun p => p.1 == n) = true := by
  rw [List.any_eq_true]
  exact ⟨xs.getD k (0, 0), by simp [List.getD, h], e⟩

set_option maxRecDepth 100000 in
set_option maxHeartbeats 1000000 in
theorem l3Saw (a : Option Addr) (c n : Nat) (xs : List P2) (z : Int) (w : World) (h : Sl w a xs) (hl : xs.length = n) (hn : n ≤ 2 ^ 40) :
    Calls Tryz.prog 127 #[.slice a n c, .int .i64 z] w fun e w' => e = .returned (.bool (xs.any fun p => p.1 == z)) ∧ w' = w := by
  subst hl
  have H1 : Hid (Sl w a xs) := h
  clear h
  go_enter Tryz.func127, Tryz.ntmps127
  go_wp2
  go_loop [5] (fun i => ∃ k : Nat, k ≤ xs.length ∧ i = .int .i64 k ∧ Hid (((xs.take k).any fun p => p.1 == z) = false)) (fun i => xs.length - (intOf i).toNat)
  case atStart => exact ⟨0, Nat.zero_le _, rfl, rfl⟩
  case round =>
    obtain ⟨k, hk, rfl, hA⟩ := hrel
    by_cases hlt : k < xs.length
    · rcases H1.out with h | ⟨b1, o1, rfl, h1⟩
      · subst h; simp at hlt
      obtain ⟨ca, cb⟩ := h1.2 k hlt
      have HT : Hid (((xs.take (k + 1)).any fun p => p.1 == z) = (((xs.take k).any fun p => p.1 == z) || (xs.getD k (0, 0)).1 == z)) := any_take_succP z hlt
      have HY : Hid (((xs.getD k (0, 0)).1 == z) = true → (xs.any fun p => p.1 == z) = true) := any_at hlt
      obtain ⟨p, hp⟩ : ∃ p, p = (xs.getD k (0, 0)).1 := ⟨_, rfl⟩
      rw [← hp] at ca
      have HP : Hid (p = (xs.getD k (0, 0)).1) := hp
      clear hp h1 cb
      cases t : (p == z) with
      | true =>
        have Y : Hid ((xs.any fun p => p.1 == z) = true) := HY.out (by rw [← HP.out]; exact t)
        clear HY HT
        go_wp2
        go_ret
        exact ⟨ret_bool Y.out.symm, rfl⟩
      | false =>
        have N : Hid (((xs.take (k + 1)).any fun p => p.1 == z) = false) := by show _ = _; rw [HT.out, hA.out, ← HP.out, t]; rfl
        clear HY HT
        go_wp2
        go_round
        case rel => exact ⟨k + 1, by omega, by go_num, N⟩
        case measure => simp [intOf]; omega
    · go_wp2
      go_ret
      have : k = xs.length := by omega
      subst this
      have h := hA.out
      rw [List.take_length] at h
      exact ⟨ret_bool h.symm, rfl⟩

/-- The place of a box among what is put, or -1. -/
def placeOf (xs : List P2) (z : Int) : Int := if (xs.any fun p => p.1 == z) then ((xs.findIdx fun p => p.1 == z) : Nat) else -1

theorem placeOf_at {xs : List P2} {k : Nat} {z : Int} (h : k < xs.length) (e : ((xs.getD k (0, 0)).1 == z) = true) (h0 : ((xs.take k).any fun p => p.1 == z) = false) : placeOf xs z = k := by
  unfold placeOf
  rw [if_pos (any_at h e)]
  have : xs.findIdx (fun p => p.1 == z) = k := by
    rw [List.findIdx_eq h]
    refine ⟨by simpa [List.getD, h] using e, fun j hj => ?_⟩
    rw [List.any_eq_false] at h0
    have := h0 (xs[j]'(by omega)) (by rw [List.mem_take_iff_getElem]; exact ⟨j, by omega, rfl⟩)
    simpa using this
  rw [this]
theorem placeOf_none {xs : List P2} {z : Int} (h : (xs.any fun p => p.1 == z) = false) : placeOf xs z = -1 := by
  simp [placeOf, h]
theorem placeOf_neg (xs : List P2) (z : Int) : decide (placeOf xs z ≥ 0) = (xs.any fun p => p.1 == z) := by
  unfold placeOf
  cases h : (xs.any fun p => p.1 == z) with
  | true => simp
  | false => simp

set_option maxRecDepth 100000 in
set_option maxHeartbeats 1000000 in
theorem l3At (a : Option Addr) (c n : Nat) (xs : List P2) (z : Int) (w : World) (h : Sl w a xs) (hl : xs.length = n) (hn : n ≤ 2 ^ 40) :
    Calls Tryz.prog 128 #[.slice a n c, .int .i64 z] w fun e w' => e = .returned (.int .i64 (placeOf xs z)) ∧ w' = w := by
  subst hl
  have H1 : Hid (Sl w a xs) := h
  clear h
  go_enter Tryz.func128, Tryz.ntmps128
  go_wp2
  go_loop [5] (fun i => ∃ k : Nat, k ≤ xs.length ∧ i = .int .i64 k ∧ Hid (((xs.take k).any fun p => p.1 == z) = false)) (fun i => xs.length - (intOf i).toNat)
  case atStart => exact ⟨0, Nat.zero_le _, rfl, rfl⟩
  case round =>
    obtain ⟨k, hk, rfl, hA⟩ := hrel
    by_cases hlt : k < xs.length
    · rcases H1.out with h | ⟨b1, o1, rfl, h1⟩
      · subst h; simp at hlt
      obtain ⟨ca, cb⟩ := h1.2 k hlt
      have HT : Hid (((xs.take (k + 1)).any fun p => p.1 == z) = (((xs.take k).any fun p => p.1 == z) || (xs.getD k (0, 0)).1 == z)) := any_take_succP z hlt
      have HY : Hid (((xs.getD k (0, 0)).1 == z) = true → placeOf xs z = k) := fun e => placeOf_at hlt e hA.out
      obtain ⟨p, hp⟩ : ∃ p, p = (xs.getD k (0, 0)).1 := ⟨_, rfl⟩
      rw [← hp] at ca
      have HP : Hid (p = (xs.getD k (0, 0)).1) := hp
      clear hp h1 cb
      cases t : (p == z) with
      | true =>
        have Y : Hid (placeOf xs z = k) := HY.out (by rw [← HP.out]; exact t)
        clear HY HT
        go_wp2
        go_ret
        exact ⟨ret_int Y.out.symm, rfl⟩
      | false =>
        have N : Hid (((xs.take (k + 1)).any fun p => p.1 == z) = false) := by show _ = _; rw [HT.out, hA.out, ← HP.out, t]; rfl
        clear HY HT
        go_wp2
        go_round
        case rel => exact ⟨k + 1, by omega, by go_num, N⟩
        case measure => simp [intOf]; omega
    · go_wp2
      go_ret
      have : k = xs.length := by omega
      subst this
      have h := hA.out
      rw [List.take_length] at h
      exact ⟨ret_int (placeOf_none h).symm, rfl⟩
end Go.Proofs.YtmcpefikmcaemaaGreatDoor.Own

namespace Go.Proofs.YtmcpefikmcaemaaGreatDoor.Own
open Go.RowKit
set_option linter.unusedVariables false
set_option linter.unusedSimpArgs false

theorem BoxAt.pre {w : World} {b off : Nat} {xs : List P2} (h : BoxAt w b off xs) (n : Nat) (hn : n ≤ xs.length) : BoxAt w b off (xs.take n) := by
  refine ⟨h.1, fun i hi => ?_⟩
  rw [List.length_take] at hi
  have e : (xs.take n).getD i (0, 0) = xs.getD i (0, 0) := by simp [List.getD, show i < n by omega]
  rw [e]; exact h.2 i (by omega)

/-- The first test of spec.ExecOk. -/
theorem endOk_true {k v : Int} {nr np : Nat} (h : endOk k v nr np = true) : (k = 0 ∧ numOk v = true) ∨ ((k = 1 ∨ k = 2) ∧ v = 0 ∧ np = 0) ∨ (k = 3 ∧ v = 0 ∧ np = 0 ∧ nr = 0) := by
  unfold endOk at h
  split at h
  · exact .inl ⟨by assumption, h⟩
  split at h
  · simp at h; exact .inr (.inl ⟨by assumption, h.1, h.2⟩)
  split at h
  · simp at h; exact .inr (.inr ⟨by assumption, h.1.1, h.1.2, h.2⟩)
  · cases h
theorem endOk_falls {k v : Int} {nr np : Nat} (h : endOk k v nr np = false) : k < 0 ∨ 3 < k ∨ (0 ≤ k ∧ k ≤ 3 ∧ numOk v = false) ∨ (1 ≤ k ∧ k ≤ 3 ∧ numOk v = true ∧ v ≠ 0) ∨ (1 ≤ k ∧ k ≤ 3 ∧ v = 0 ∧ 0 < np) ∨ (k = 3 ∧ v = 0 ∧ np = 0 ∧ 0 < nr) := by
  by_cases h1 : k < 0
  · exact .inl h1
  by_cases h2 : 3 < k
  · exact .inr (.inl h2)
  cases hn : numOk v with
  | false => exact .inr (.inr (.inl ⟨by omega, by omega, rfl⟩))
  | true =>
    by_cases h0 : k = 0
    · subst h0; rw [endOk_0, hn] at h; cases h
    by_cases hv : v = 0
    · subst hv
      by_cases hp : 0 < np
      · exact .inr (.inr (.inr (.inr (.inl ⟨by omega, by omega, rfl, hp⟩))))
      by_cases h3 : k = 3
      · subst h3
        by_cases hr : 0 < nr
        · exact .inr (.inr (.inr (.inr (.inr ⟨rfl, rfl, by omega, hr⟩))))
        · rw [endOk_3] at h; simp at h; omega
      · have : k = 1 ∨ k = 2 := by omega
        rcases this with rfl | rfl
        · rw [endOk_1] at h; simp at h; omega
        · rw [endOk_2] at h; simp at h; omega
    · exact .inr (.inr (.inr (.inl ⟨by omega, by omega, rfl, hv⟩)))

set_option maxRecDepth 100000 in
set_option maxHeartbeats 2000000 in
theorem specExecOk_no (a1 a2 : Option Addr) (n1 c1 n2 c2 : Nat) (v k : Int) (w : World) (h : endOk k v n1 n2 = false) :
    Calls Tryz.prog 89 #[.agg #[.slice a1 n1 c1, .slice a2 n2 c2, .int .i64 v, .int .i64 k]] w fun e w' => e = .returned (.bool false) ∧ Below w.heap.size w w' := by
  have B0 : ∀ o, Hid (Below w.heap.size w (w.alloc o)) := fun o => (Below.refl _ _).alloc (Nat.le_refl _) _
  rcases endOk_falls h with h | h | ⟨h1, h2, h3⟩ | ⟨h1, h2, h3, h4⟩ | ⟨h1, h2, rfl, h4⟩ | ⟨rfl, rfl, rfl, h4⟩
  · go_enter Tryz.func89, Tryz.ntmps89
    go_wp2
    go_ret
    exact ⟨rfl, (B0 _).out⟩
  · have h' : ¬ k < 0 := by omega
    go_enter Tryz.func89, Tryz.ntmps89
    go_wp2
    go_ret
    exact ⟨rfl, (B0 _).out⟩
  · have H3 : Hid (numOk v = false) := h3
    clear h3
    go_enter Tryz.func89, Tryz.ntmps89
    go_wp2_with fail
    refine (l1Num v _).mono ?_
    rintro e w1 ⟨rfl, rfl⟩
    rw [H3.out]
    go_wp2
    go_ret
    exact ⟨rfl, (B0 _).out⟩
  · have H3 : Hid (numOk v = true) := h3
    have e0 : (k != 0) = true := by simp; omega
    have e1 : (v != 0) = true := by simpa using h4
    clear h3 h4
    go_enter Tryz.func89, Tryz.ntmps89
    go_wp2_with fail
    refine (l1Num v _).mono ?_
    rintro e w1 ⟨rfl, rfl⟩
    rw [H3.out]
    go_wp2
    go_ret
    exact ⟨rfl, (B0 _).out⟩
  · have e0 : (k != 0) = true := by simp; omega
    have e1 : decide ((0 : Int) < (n2 : Int)) = true := by simp; omega
    go_enter Tryz.func89, Tryz.ntmps89
    go_wp2_with fail
    refine (l1Num 0 _).mono ?_
    rintro e w1 ⟨rfl, rfl⟩
    rw [show numOk 0 = true from rfl]
    go_wp2
    go_ret
    exact ⟨rfl, (B0 _).out⟩
  · have e1 : decide ((0 : Int) < (n1 : Int)) = true := by simp; omega
    go_enter Tryz.func89, Tryz.ntmps89
    go_wp2_with fail
    refine (l1Num 0 _).mono ?_
    rintro e w1 ⟨rfl, rfl⟩
    rw [show numOk 0 = true from rfl]
    go_wp2
    go_ret
    exact ⟨rfl, (B0 _).out⟩
end Go.Proofs.YtmcpefikmcaemaaGreatDoor.Own
