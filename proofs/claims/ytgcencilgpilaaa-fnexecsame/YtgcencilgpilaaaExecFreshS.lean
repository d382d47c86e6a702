/-
  Own text: what spec.ExecFresh does.
-/
import Derived.Test.YtgcencilgpilaaaExecFreshI
import Derived.Test.YtgcencilgpilaaaExecOkS3
namespace Go.Proofs.Ytgcencilgpilaaa.Own
open Go.RowKit
set_option linter.unusedVariables false
set_option linter.unusedSimpArgs false

set_option maxRecDepth 100000 in
set_option maxHeartbeats 2000000 in
theorem specExecFresh (a : Option Addr) (c : Nat) (bs : List P2) (a1 a2 : Option Addr) (c1 c2 : Nat) (xs ys : List P2) (v k : Int) (w : World) (h0 : Sl w a bs) (hn0 : bs.length ≤ 2 ^ 40) (h1 : Sl w a1 xs) (h2 : Sl w a2 ys) (hn1 : xs.length ≤ 2 ^ 40) (hn2 : ys.length ≤ 2 ^ 40) (hc1 : xs.length ≤ c1) (hc2 : ys.length ≤ c2) :
    Calls Try.prog 19 #[.slice a bs.length c, .agg #[.slice a1 xs.length c1, .slice a2 ys.length c2, .int .i64 v, .int .i64 k]] w fun e w' => e = .returned (.bool (execFresh bs xs ys v k)) ∧ Below w.heap.size w w' := by
  have H0 : Hid (Sl w a bs) := h0
  have H1 : Hid (Sl w a1 xs) := h1
  have H2 : Hid (Sl w a2 ys) := h2
  clear h0 h1 h2
  have E : Hid (execFresh bs xs ys v k = (boxOk bs && execOk xs ys v k && xs.all (freshAt bs))) := rfl
  obtain ⟨W, hW⟩ : ∃ W, W = w.alloc (.cells #[.slice a1 xs.length c1, .slice a2 ys.length c2, .int .i64 v, .int .i64 k] 27) := ⟨_, rfl⟩
  have BW : Hid (Below w.heap.size w W) := by show Below _ _ _; rw [hW]; exact below_new _ _
  have P0 : Hid (C4 W w.heap.size (.slice a1 xs.length c1) (.slice a2 ys.length c2) (.int .i64 v) (.int .i64 k)) := by show C4 _ _ _ _ _ _; rw [hW]; exact C4.new _ _ _ _ _ _
  have HW : Hid (W = _) := hW
  clear hW
  have CB := specOk a c bs W (H0.out.below BW.out) hn0
  cases hb : boxOk bs with
  | false =>
    rw [hb] at CB
    have CB' : Hid _ := CB
    clear CB
    go_enter Try.func19, Try.ntmps19
    go_wp2_with fail
    rw [← HW.out]
    refine Calls.mono CB'.out ?_
    rintro e w1 ⟨rfl, rfl⟩
    go_wp2_with fail
    go_ret
    exact ⟨ret_bool (by rw [E.out, hb]; rfl), BW.out⟩
  | true =>
    rw [hb] at CB
    have CB' : Hid _ := CB
    have HL : Hid (bs.length = 4) := boxOk_len hb
    have HBO : Hid (boxOk bs = true) := hb
    clear CB hb
    go_enter Try.func19, Try.ntmps19
    go_wp2_with fail
    rw [← HW.out]
    refine Calls.mono CB'.out ?_
    rintro e w1 ⟨rfl, hw1⟩
    subst hw1
    obtain ⟨_, q0, q1, q2, q3⟩ := P0.out
    have CE := specExecOk a1 a2 c1 c2 xs ys v k w1 (H1.out.below BW.out) (H2.out.below BW.out) hn1 hn2 hc1 hc2
    cases he : execOk xs ys v k with
    | false =>
      rw [he] at CE
      have CE' : Hid _ := CE
      clear CE
      go_wp2_with fail
      refine Calls.mono CE'.out ?_
      rintro e w2 ⟨rfl, b2⟩
      have B2 : Hid (Below w.heap.size w w2) := BW.out.trans (b2.mono BW.out.size)
      clear b2
      go_wp2_with fail
      go_ret
      exact ⟨ret_bool (by rw [E.out, he]; simp), B2.out⟩
    | true =>
      rw [he] at CE
      have CE' : Hid _ := CE
      have E2 : Hid (execFresh bs xs ys v k = xs.all (freshAt bs)) := by show _ = _; rw [E.out, he, HBO.out]; rfl
      have HR : Hid (okAll verOk xs = true) := execOk_reads he
      clear CE he
      go_wp2_with fail
      refine Calls.mono CE'.out ?_
      rintro e w2 ⟨rfl, b2⟩
      have B2 : Hid (Below w1.heap.size w1 w2) := b2
      clear b2 q0 q1 q2 q3
      obtain ⟨_, q0, _, _, _⟩ := P0.out.below B2.out
      go_wp2_with fail
      go_loopw [5] (fun i wr => ∃ j : Nat, j ≤ xs.length ∧ i = .int .i64 j ∧ Hid ((xs.take j).all (freshAt bs) = true) ∧ Below w1.heap.size w1 wr) (fun i _ => xs.length - (intOf i).toNat)
      case atStart => exact ⟨0, Nat.zero_le _, rfl, rfl, B2.out⟩
      case round =>
        clear q0
        obtain ⟨j, hj, rfl, hA, hB⟩ := hrel
        have HB : Hid (Below w1.heap.size w1 wr) := hB
        obtain ⟨_, q0, _, _, _⟩ := P0.out.below hB
        by_cases hlt : j < xs.length
        · rcases H1.out with h | ⟨b1, o1, rfl, h1⟩
          · subst h; simp at hlt
          have H1' : Hid (BoxAt wr b1 o1 xs) := (h1.below BW.out).below hB
          rcases H0.out with h | ⟨b0, o0, rfl, h0⟩
          · have := HL.out; subst h; simp at this
          have H0' : Hid (BoxAt wr b0 o0 bs) := (h0.below BW.out).below hB
          clear h1 h0 hB
          obtain ⟨p, hp⟩ : ∃ p, p = xs.getD j (0, 0) := ⟨_, rfl⟩
          obtain ⟨ca, cb⟩ := H1'.out.2 j hlt
          rw [← hp] at ca cb
          have HP : Hid (p = xs.getD j (0, 0)) := hp
          clear hp
          obtain ⟨p1, p2⟩ := p
          obtain ⟨m, hm, hm1⟩ := okAll_box HR.out j hlt
          rw [← HP.out] at hm1
          have hm2 : p1 = (m : Int) := hm1
          clear hm1
          subst hm2
          obtain ⟨x, hx⟩ : ∃ x, x = (bs.getD m (0, 0)).1 := ⟨_, rfl⟩
          have cx := (H0'.out.2 m (by rw [HL.out]; exact hm)).1
          rw [← hx] at cx
          have HF : Hid (freshAt bs (xs.getD j (0, 0)) = (x == p2)) := by show _ = _; rw [← HP.out, hx]; simp [freshAt]
          have hml : (m : Int) < (bs.length : Int) := by have := HL.out; omega
          clear hx
          cases t : (x == p2) with
          | true =>
            have N : Hid ((xs.take (j + 1)).all (freshAt bs) = true) := by show _ = _; rw [all_take_succ (0, 0) hlt, hA.out, HF.out, t]; rfl
            have t' : (x != p2) = false := by simp [bne, t]
            go_wp2
            go_quiet (fail)
            go_wp2
            go_roundw
            case rel => exact ⟨j + 1, by omega, by go_num, N, below_drewN HB.out _⟩
            case measure => simp [intOf]; omega
          | false =>
            have F : Hid (xs.all (freshAt bs) = false) := all_false (0, 0) hlt (by rw [HF.out]; exact t)
            have t' : (x != p2) = true := by simp [bne, t]
            go_wp2
            go_quiet (fail)
            go_wp2
            go_ret
            exact ⟨ret_bool (by rw [E2.out]; exact F.out.symm), below_drewN (BW.out.trans (HB.out.mono BW.out.size)) _⟩
        · have h1 : j = xs.length := by omega
          have h2 := hA.out
          subst h1
          rw [List.take_length] at h2
          have HA : Hid (xs.all (freshAt bs) = true) := h2
          clear h2 hA hB
          go_wp2_with fail
          go_ret
          exact ⟨ret_bool (by rw [E2.out]; exact HA.out.symm), BW.out.trans (HB.out.mono BW.out.size)⟩
end Go.Proofs.Ytgcencilgpilaaa.Own
