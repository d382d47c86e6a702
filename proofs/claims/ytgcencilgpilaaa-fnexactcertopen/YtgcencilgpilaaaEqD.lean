/-
  Own text: what laws.eqDone and eqDoneS do.
-/
import Derived.Test.YtgcencilgpilaaaBase4
import Derived.Test.YtgcencilgpilaaaBlk
namespace Go.Proofs.Ytgcencilgpilaaa.Own
open Go.RowKit
set_option linter.unusedVariables false
set_option linter.unusedSimpArgs false

set_option maxHeartbeats 1000000 in
theorem eqReqG (a b a' b' : Int) (w : World) : Calls Try.prog 113 #[.agg #[.int .i64 a, .int .i64 b], .agg #[.int .i64 a', .int .i64 b']] w fun e w' => e = .returned (.bool (a == a' && b == b')) ∧ Below w.heap.size w w' := by
  obtain ⟨r, hr⟩ : ∃ r, r = (a == a' && b == b') := ⟨_, rfl⟩
  have E : Hid (r = (a == a' && b == b')) := hr
  rw [← hr]
  clear hr
  go_enter Try.func113, Try.ntmps113
  go_wp2
  all_goals go_ret
  all_goals refine ⟨ret_bool ?_, ((Below.refl _ _).alloc (Nat.le_refl _) _).alloc (by simp) _⟩
  all_goals rw [E.out]; simp_all

set_option maxRecDepth 100000 in
set_option maxHeartbeats 1000000 in
theorem eqDone (a b c d a' b' c' d' : Int) (w : World) : Calls Try.prog 133 #[.agg #[.int .i64 a, .int .i64 b, .int .i64 c, .int .i64 d], .agg #[.int .i64 a', .int .i64 b', .int .i64 c', .int .i64 d']] w fun e w' => e = .returned (.bool (eqQ (a, b, c, d) (a', b', c', d'))) ∧ Below w.heap.size w w' := by
  have E : Hid (eqQ (a, b, c, d) (a', b', c', d') = ((a == a' && b == b') && c == c' && d == d')) := rfl
  generalize eqQ (a, b, c, d) (a', b', c', d') = r at E ⊢
  obtain ⟨W, hW⟩ : ∃ W, W = (w.alloc (.cells #[.int .i64 a, .int .i64 b, .int .i64 c, .int .i64 d] 137)).alloc (.cells #[.int .i64 a', .int .i64 b', .int .i64 c', .int .i64 d'] 137) := ⟨_, rfl⟩
  have BW : Hid (Below w.heap.size w W) := by
    show Below _ _ _
    rw [hW]; exact ((Below.refl _ _).alloc (Nat.le_refl _) _).alloc (by simp) _
  have G0 : Hid (Blk W w.heap.size #[.int .i64 a, .int .i64 b, .int .i64 c, .int .i64 d] 137) := by show Blk _ _ _ _; rw [hW]; exact (Blk.new _ _ _).alloc _
  have G1 : Hid (Blk W (w.heap.size + 1) #[.int .i64 a', .int .i64 b', .int .i64 c', .int .i64 d'] 137) := by show Blk _ _ _ _; rw [hW]; exact Blk.new2 _ _ _ _
  have HW : Hid (W = _) := hW
  clear hW
  go_enter Try.func133, Try.ntmps133
  go_wp2_with fail
  rw [← HW.out]
  refine (eqReqG a b a' b' W).mono ?_
  rintro e w1 ⟨rfl, b1⟩
  have B1 : Hid (Below w.heap.size w w1) := BW.out.trans (b1.mono BW.out.size)
  obtain ⟨q0, q1, q2, q3⟩ := (G0.out.keep b1).cells4
  obtain ⟨r0, r1, r2, r3⟩ := (G1.out.keep b1).cells4
  clear b1
  generalize (a == a' && b == b') = x at E ⊢
  cases x with
  | false =>
    have F : Hid (r = false) := by show _ = _; rw [E.out]; rfl
    go_wp2_with fail
    go_ret
    exact ⟨ret_bool F.out.symm, B1.out⟩
  | true =>
    cases hc : (c != c') with
    | true =>
      have F : Hid (r = false) := by
        show _ = _
        have : (c == c') = false := by simpa using hc
        rw [E.out, this]; rfl
      go_wp2_with fail
      go_ret
      exact ⟨ret_bool F.out.symm, B1.out⟩
    | false =>
      have hc2 : (c == c') = true := by simpa using hc
      cases hd : (d != d') with
      | true =>
        have F : Hid (r = false) := by
          show _ = _
          have : (d == d') = false := by simpa using hd
          rw [E.out, this]; simp
        go_wp2_with fail
        go_ret
        exact ⟨ret_bool F.out.symm, B1.out⟩
      | false =>
        have F : Hid (r = true) := by
          show _ = _
          have : (d == d') = true := by simpa using hd
          rw [E.out, this, hc2]; rfl
        go_wp2_with fail
        go_ret
        exact ⟨ret_bool F.out.symm, B1.out⟩

set_option maxHeartbeats 1000000 in
theorem eqDoneS (a1 a2 : Option Addr) (c1 c2 : Nat) (xs ys : List Q4) (w : World) (h1 : Sl4 w a1 xs) (h2 : Sl4 w a2 ys) (l1 : xs.length ≤ 2 ^ 40) (l2 : ys.length ≤ 2 ^ 40) :
    Calls Try.prog 100 #[.slice a1 xs.length c1, .slice a2 ys.length c2] w fun e w' => e = .returned (.bool (xs == ys)) ∧ Below w.heap.size w w' := by
  have H1 : Hid (Sl4 w a1 xs) := h1
  have H2 : Hid (Sl4 w a2 ys) := h2
  clear h1 h2
  by_cases hl : xs.length = ys.length
  · have hl' : ((xs.length : Int) != (ys.length : Int)) = false := by simp [hl]
    have Hl : Hid (xs.length = ys.length) := hl
    clear hl
    go_enter Try.func100, Try.ntmps100
    go_wp2
    go_loopw [5] (fun i wr => ∃ k : Nat, k ≤ xs.length ∧ i = .int .i64 k ∧ Hid (xs.take k = ys.take k) ∧ Below w.heap.size w wr) (fun i _ => xs.length - (intOf i).toNat)
    case atStart => exact ⟨0, Nat.zero_le _, rfl, rfl, Below.refl _ _⟩
    case round =>
      obtain ⟨k, hk, rfl, hE, hB⟩ := hrel
      by_cases hlt : k < xs.length
      · have hlt2 : k < ys.length := by rw [← Hl.out]; exact hlt
        rcases H1.out with h | ⟨b1, o1, rfl, h1⟩
        · subst h; simp at hlt
        rcases H2.out with h | ⟨b2, o2, rfl, h2⟩
        · subst h; simp at hlt2
        have H1' : Hid (At4 w b1 o1 xs) := h1
        have H2' : Hid (At4 w b2 o2 ys) := h2
        clear h1 h2
        have HT : Hid ((xs.take (k + 1) = ys.take (k + 1)) ↔ (xs.getD k q0 = ys.getD k q0)) := by
          unfold Hid; rw [take_succ_eqG q0 hlt hlt2]; exact ⟨fun h => h.2, fun h => ⟨hE, h⟩⟩
        obtain ⟨p, hp⟩ : ∃ p, p = xs.getD k q0 := ⟨_, rfl⟩
        obtain ⟨q, hq⟩ : ∃ q, q = ys.getD k q0 := ⟨_, rfl⟩
        obtain ⟨ca, cb, cc, cd⟩ := H1'.out.2 k hlt
        obtain ⟨da, db, dc, dd⟩ := H2'.out.2 k hlt2
        rw [← hB.cell H1'.out.1, ← hp] at ca cb cc cd
        rw [← hB.cell H2'.out.1, ← hq] at da db dc dd
        have HP : Hid (p = xs.getD k q0) := hp
        have HQ : Hid (q = ys.getD k q0) := hq
        clear hp hq
        obtain ⟨p1, p2, p3, p4⟩ := p
        obtain ⟨q1, q2, q3, q4⟩ := q
        have hsz := hB.size
        have HB : Hid (Below w.heap.size w wr) := hB
        clear hB
        by_cases hpq : eqQ (p1, p2, p3, p4) (q1, q2, q3, q4) = true
        · have N : Hid (xs.take (k + 1) = ys.take (k + 1)) := by
            show _ = _
            apply HT.out.2
            rw [← HP.out, ← HQ.out]
            exact (eqQ_iff _ _).1 hpq
          go_wp2
          go_region_with (go_at_call 133; refine (eqDone _ _ _ _ _ _ _ _ _).mono ?_; rintro e w' ⟨rfl, hb⟩)
          all_goals
            go_wp2
            go_roundw
            case rel => exact ⟨k + 1, by omega, by go_num, N, HB.out.trans (Below.trans ((Below.refl _ _).drew) (hb.mono (by simpa using hsz)))⟩
            case measure => simp [intOf]; omega
        · have hpq' : eqQ (p1, p2, p3, p4) (q1, q2, q3, q4) = false := by simpa using hpq
          have F : Hid ((xs == ys) = false) := by
            show _ = _
            apply ne_of_getDG (k := k) q0
            rw [← HP.out, ← HQ.out]
            exact (eqQ_false _ _).1 hpq'
          clear hpq
          go_wp2
          go_region_with (go_at_call 133; refine (eqDone _ _ _ _ _ _ _ _ _).mono ?_; rintro e w' ⟨rfl, hb⟩)
          all_goals
            go_wp2
            go_ret
            exact ⟨ret_bool F.out.symm, HB.out.trans (Below.trans ((Below.refl _ _).drew) (hb.mono (by simpa using hsz)))⟩
      · go_wp2
        go_ret
        have : k = xs.length := by omega
        subst this
        refine ⟨ret_bool ?_, hB⟩
        have h := hE
        unfold Hid at h
        rw [List.take_length] at h
        have h3 := Hl.out
        rw [List.take_of_length_le (by omega)] at h
        simp [h]
  · have hl' : ((xs.length : Int) != (ys.length : Int)) = true := by simp; omega
    go_enter Try.func100, Try.ntmps100
    go_wp2
    go_ret
    refine ⟨ret_bool ?_, Below.refl _ _⟩
    symm
    simp
    intro h; exact hl (by rw [h])
end Go.Proofs.Ytgcencilgpilaaa.Own
