/-
  Own text: what laws.eqIns and eqInsS do.
-/
import Derived.Test.YtgcencilgpilaaaPk1
namespace Go.Proofs.Ytgcencilgpilaaa.Own
open Go.RowKit

set_option maxHeartbeats 1000000 in
theorem eqIns (a b c d a' b' c' d' : Int) (w : World) : Calls Try.prog 132 #[.agg #[.int .i64 a, .int .i64 b, .int .i64 c, .int .i64 d], .agg #[.int .i64 a', .int .i64 b', .int .i64 c', .int .i64 d']] w fun e w' => e = .returned (.bool (eqQ (a, b, c, d) (a', b', c', d'))) ∧ Below w.heap.size w w' := by
  have E : Hid (eqQ (a, b, c, d) (a', b', c', d') = (a == a' && b == b' && c == c' && d == d')) := rfl
  generalize eqQ (a, b, c, d) (a', b', c', d') = r at E ⊢
  go_enter Try.func132, Try.ntmps132
  go_wp2
  all_goals go_ret
  all_goals refine ⟨ret_bool ?_, ((Below.refl _ _).alloc (Nat.le_refl _) _).alloc (by simp) _⟩
  all_goals rw [E.out]; simp_all

set_option maxHeartbeats 1000000 in
theorem eqInsS (a1 a2 : Option Addr) (c1 c2 : Nat) (xs ys : List Q4) (w : World) (h1 : Sl4 w a1 xs) (h2 : Sl4 w a2 ys) (l1 : xs.length ≤ 2 ^ 40) (l2 : ys.length ≤ 2 ^ 40) :
    Calls Try.prog 96 #[.slice a1 xs.length c1, .slice a2 ys.length c2] w fun e w' => e = .returned (.bool (xs == ys)) ∧ Below w.heap.size w w' := by
  have H1 : Hid (Sl4 w a1 xs) := h1
  have H2 : Hid (Sl4 w a2 ys) := h2
  clear h1 h2
  by_cases hl : xs.length = ys.length
  · have hl' : ((xs.length : Int) != (ys.length : Int)) = false := by simp [hl]
    have Hl : Hid (xs.length = ys.length) := hl
    clear hl
    go_enter Try.func96, Try.ntmps96
    go_wp2
    go_loopw [5] (fun i wr => ∃ k : Nat, k ≤ xs.length ∧ i = .int .i64 k ∧ Hid (xs.take k = ys.take k) ∧ Below w.heap.size w wr) (fun i _ => xs.length - (intOf i).toNat)
    case atStart => exact ⟨0, Nat.zero_le _, rfl, rfl, Below.refl _ _⟩
    case round =>
      obtain ⟨k, hk, rfl, hE, hB⟩ := hrel
      by_cases hlt : k < xs.length
      · have hlt2 : k < ys.length := by rw [← Hl.out]; exact hlt
        rcases H1.out with h | ⟨b1, o1, rfl, h1⟩
        · subst h; simp at hlt
        rcases H2.out with h | ⟨b2, o2, rfl, h2⟩
        · subst h; simp at hlt2
        have H1' : Hid (At4 w b1 o1 xs) := h1
        have H2' : Hid (At4 w b2 o2 ys) := h2
        clear h1 h2
        have HT : Hid ((xs.take (k + 1) = ys.take (k + 1)) ↔ (xs.getD k q0 = ys.getD k q0)) := by
          unfold Hid; rw [take_succ_eqG q0 hlt hlt2]; exact ⟨fun h => h.2, fun h => ⟨hE, h⟩⟩
        obtain ⟨p, hp⟩ : ∃ p, p = xs.getD k q0 := ⟨_, rfl⟩
        obtain ⟨q, hq⟩ : ∃ q, q = ys.getD k q0 := ⟨_, rfl⟩
        obtain ⟨ca, cb, cc, cd⟩ := H1'.out.2 k hlt
        obtain ⟨da, db, dc, dd⟩ := H2'.out.2 k hlt2
        rw [← hB.cell H1'.out.1, ← hp] at ca cb cc cd
        rw [← hB.cell H2'.out.1, ← hq] at da db dc dd
        have HP : Hid (p = xs.getD k q0) := hp
        have HQ : Hid (q = ys.getD k q0) := hq
        clear hp hq
        obtain ⟨p1, p2, p3, p4⟩ := p
        obtain ⟨q1, q2, q3, q4⟩ := q
        have hsz := hB.size
        have HB : Hid (Below w.heap.size w wr) := hB
        clear hB
        by_cases hpq : eqQ (p1, p2, p3, p4) (q1, q2, q3, q4) = true
        · have N : Hid (xs.take (k + 1) = ys.take (k + 1)) := by
            show _ = _
            apply HT.out.2
            rw [← HP.out, ← HQ.out]
            exact (eqQ_iff _ _).1 hpq
          go_wp2
          go_region_with (go_at_call 132; refine (eqIns _ _ _ _ _ _ _ _ _).mono ?_; rintro e w' ⟨rfl, hb⟩)
          all_goals
            go_wp2
            go_roundw
            case rel => exact ⟨k + 1, by omega, by go_num, N, HB.out.trans (Below.trans ((Below.refl _ _).drew) (hb.mono (by simpa using hsz)))⟩
            case measure => simp [intOf]; omega
        · have hpq' : eqQ (p1, p2, p3, p4) (q1, q2, q3, q4) = false := by simpa using hpq
          have F : Hid ((xs == ys) = false) := by
            show _ = _
            apply ne_of_getDG (k := k) q0
            rw [← HP.out, ← HQ.out]
            exact (eqQ_false _ _).1 hpq'
          clear hpq
          go_wp2
          go_region_with (go_at_call 132; refine (eqIns _ _ _ _ _ _ _ _ _).mono ?_; rintro e w' ⟨rfl, hb⟩)
          all_goals
            go_wp2
            go_ret
            exact ⟨ret_bool F.out.symm, HB.out.trans (Below.trans ((Below.refl _ _).drew) (hb.mono (by simpa using hsz)))⟩
      · go_wp2
        go_ret
        have : k = xs.length := by omega
        subst this
        refine ⟨ret_bool ?_, hB⟩
        have h := hE
        unfold Hid at h
        rw [List.take_length] at h
        have h3 := Hl.out
        rw [List.take_of_length_le (by omega)] at h
        simp [h]
  · have hl' : ((xs.length : Int) != (ys.length : Int)) = true := by simp; omega
    go_enter Try.func96, Try.ntmps96
    go_wp2
    go_ret
    refine ⟨ret_bool ?_, Below.refl _ _⟩
    symm
    simp
    intro h; exact hl (by rw [h])
end Go.Proofs.Ytgcencilgpilaaa.Own
