/-
  Own text, by program out of Eq.lean: the same over []Put.
-/
import Derived.Test.YtildonpdmmliaaaGreatDoorBase
namespace Go.Proofs.YtildonpdmmliaaaGreatDoor.Own
open Go.RowKit

set_option maxHeartbeats 400000 in
theorem eqPut (a b c d : Int) (w : World) : Calls Tryz.prog 70 #[.agg #[.int .i64 a, .int .i64 b], .agg #[.int .i64 c, .int .i64 d]] w fun e w' => e = .returned (.bool (a == c && b == d)) ∧ Below w.heap.size w w' := by
  go_enter Tryz.func70, Tryz.ntmps70
  go_wp2
  all_goals go_ret
  all_goals refine ⟨ret_bool ?_, ((Below.refl _ _).alloc (Nat.le_refl _) _).alloc (by simp) _⟩
  all_goals simp_all

set_option maxHeartbeats 1000000 in
theorem eqPutS (a1 a2 : Option Addr) (c1 c2 : Nat) (xs ys : List (Int × Int)) (w : World) (h1 : Sl w a1 xs) (h2 : Sl w a2 ys) (l1 : xs.length ≤ 2 ^ 40) (l2 : ys.length ≤ 2 ^ 40) :
    Calls Tryz.prog 57 #[.slice a1 xs.length c1, .slice a2 ys.length c2] w fun e w' => e = .returned (.bool (xs == ys)) ∧ Below w.heap.size w w' := by
  have H1 : Hid (Sl w a1 xs) := h1
  have H2 : Hid (Sl w a2 ys) := h2
  clear h1 h2
  by_cases hl : xs.length = ys.length
  · have hl' : ((xs.length : Int) != (ys.length : Int)) = false := by simp [hl]
    have Hl : Hid (xs.length = ys.length) := hl
    clear hl
    go_enter Tryz.func57, Tryz.ntmps57
    go_wp2
    go_loopw [5] (fun i wr => ∃ k : Nat, k ≤ xs.length ∧ i = .int .i64 k ∧ Hid (xs.take k = ys.take k) ∧ Below w.heap.size w wr) (fun i _ => xs.length - (intOf i).toNat)
    case atStart => exact ⟨0, Nat.zero_le _, rfl, rfl, Below.refl _ _⟩
    case round =>
      obtain ⟨k, hk, rfl, hE, hB⟩ := hrel
      by_cases hlt : k < xs.length
      · have hlt2 : k < ys.length := by rw [← Hl.out]; exact hlt
        rcases H1.out with h | ⟨b1, o1, rfl, h1⟩
        · subst h; simp at hlt
        rcases H2.out with h | ⟨b2, o2, rfl, h2⟩
        · subst h; simp at hlt2
        have H1' : Hid (BoxAt w b1 o1 xs) := h1
        have H2' : Hid (BoxAt w b2 o2 ys) := h2
        clear h1 h2
        have HT : Hid ((xs.take (k + 1) = ys.take (k + 1)) ↔ (xs.getD k (0, 0) = ys.getD k (0, 0))) := by
          unfold Hid; rw [take_succ_eq hlt hlt2]; exact ⟨fun h => h.2, fun h => ⟨hE, h⟩⟩
        obtain ⟨p, hp⟩ : ∃ p, p = xs.getD k (0, 0) := ⟨_, rfl⟩
        obtain ⟨q, hq⟩ : ∃ q, q = ys.getD k (0, 0) := ⟨_, rfl⟩
        have ca := (H1'.out.2 k hlt).1
        have cb := (H1'.out.2 k hlt).2
        have cc := (H2'.out.2 k hlt2).1
        have cd := (H2'.out.2 k hlt2).2
        rw [← hB.cell H1'.out.1, ← hp] at ca cb
        rw [← hB.cell H2'.out.1, ← hq] at cc cd
        have HP : Hid (p = xs.getD k (0, 0)) := hp
        have HQ : Hid (q = ys.getD k (0, 0)) := hq
        clear hp hq
        obtain ⟨p1, p2⟩ := p
        obtain ⟨q1, q2⟩ := q
        have hsz := hB.size
        by_cases hpq : (p1 == q1 && p2 == q2) = true
        · go_wp2
          go_region_with (go_at_call 70; refine (eqPut _ _ _ _ _).mono ?_; rintro e w' ⟨rfl, hb⟩)
          all_goals
            go_wp2
            go_roundw
            case rel =>
              refine ⟨k + 1, by omega, by go_num, ?_, hB.trans (Below.trans ((Below.refl _ _).drew) (hb.mono (by simpa using hsz)))⟩
              apply HT.out.2
              rw [← HP.out, ← HQ.out]
              simp at hpq
              rw [hpq.1, hpq.2]
            case measure => simp [intOf]; omega
        · have hpq' : (p1 == q1 && p2 == q2) = false := by simpa using hpq
          clear hpq
          go_wp2
          go_region_with (go_at_call 70; refine (eqPut _ _ _ _ _).mono ?_; rintro e w' ⟨rfl, hb⟩)
          all_goals
            go_wp2
            go_ret
            refine ⟨ret_bool ?_, hB.trans (Below.trans ((Below.refl _ _).drew) (hb.mono (by simpa using hsz)))⟩
            symm
            apply ne_of_getD (k := k)
            rw [← HP.out, ← HQ.out]
            intro h
            simp at hpq'
            simp at h
            exact hpq' h.1 h.2
      · go_wp2
        go_ret
        have : k = xs.length := by omega
        subst this
        refine ⟨ret_bool ?_, hB⟩
        have h := hE
        unfold Hid at h
        rw [List.take_length] at h
        have h3 := Hl.out
        rw [List.take_of_length_le (by omega)] at h
        simp [h]
  · have hl' : ((xs.length : Int) != (ys.length : Int)) = true := by simp; omega
    go_enter Tryz.func57, Tryz.ntmps57
    go_wp2
    go_ret
    refine ⟨ret_bool ?_, Below.refl _ _⟩
    symm
    simp
    intro h; exact hl (by rw [h])
end Go.Proofs.YtildonpdmmliaaaGreatDoor.Own
