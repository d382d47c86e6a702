/-
  Own text: spec.DrawSerialFree and laws.FnSerialFree.
-/
import Derived.Test.YtiibonnchmphcaaFreeI
import Derived.Test.YtiibonnchmphcaaFreeS
import Derived.Test.YtiibonnchmphcaaDrawBent
namespace Go.Proofs.Ytiibonnchmphcaa.Own
open Go.RowKit
set_option linter.unusedVariables false
set_option linter.unusedSimpArgs false

theorem At4.bar {w w' : World} {b off rb : Nat} {xs : List Q4} (h : At4 w b off xs) (hb : Bar rb w w') (hn : b ≠ rb) : At4 w' b off xs :=
  h.congr (Nat.lt_of_lt_of_le h.1 hb.size) (fun o => World.cell?_of_block (w := w) (a := ⟨b, o, none⟩) (hb.block b h.1 hn))

set_option maxHeartbeats 1000000 in
theorem drawSerialFree (a : Option Addr) (n c : Nat) (w : World) (h : Bytes w w.heap.size a n) (hc : n ≤ c) (hm : c ≤ maxLen) :
    Calls Try.prog 38 #[.slice a n c] w fun e w' => ∃ g1 cap1 xs g2 cap2 ys, e = .returned (.tuple #[.slice (some ⟨g1, 0, none⟩) xs.length cap1, .slice (some ⟨g2, 0, none⟩) ys.length cap2]) ∧ (At4 w' g1 0 xs ∧ At4 w' g2 0 ys) ∧ (xs.length ≤ 11 ∧ ys.length ≤ 11) ∧ Below w.heap.size w w' := by
  have HB : Hid (Bytes w w.heap.size a n) := h
  clear h
  go_enter Try.func38, Try.ntmps38
  go_wp2_with fail
  refine (l15Open a n c w HB.out hc hm).mono ?_
  rintro e w1 ⟨rfl, hR, hb⟩
  have HR : Hid (Rd w1 w.heap.size (w.heap.size + 1) 0) := hR
  have HB1 : Hid (Below w.heap.size w w1) := hb
  have S1 : Hid (w.heap.size + 1 ≤ w1.heap.size) := hR.2.1
  clear hR hb
  go_wp2_with fail
  refine (l2Bent w.heap.size (w.heap.size + 1) 0 w1 HR.out (by omega)).mono ?_
  rintro e w2 ⟨g1, cap1, xs, rfl, hown, hl, hsm, ⟨p', hp', hR2⟩, hbar⟩
  have F : Hid (w1.heap.size ≤ g1 ∧ At4 w2 g1 0 xs) := ⟨hown.cells.1, hown.cells.2.1⟩
  have HR2 : Hid (Rd w2 w.heap.size (w.heap.size + 1) p') := hR2
  have BR : Hid (Bar w.heap.size w1 w2) := hbar
  clear hown hsm hbar hR2
  go_wp2_with fail
  refine (l2Bent w.heap.size (w.heap.size + 1) p' w2 HR2.out (by omega)).mono ?_
  rintro e w3 ⟨g2, cap2, ys, rfl, hown, hl2, hsm, _, hbar⟩
  have F2 : Hid (At4 w3 g2 0 ys) := hown.cells.2.1
  have F1 : Hid (At4 w3 g1 0 xs) := F.out.2.bar hbar (by have := F.out.1; have := S1.out; omega)
  have BT : Hid (Below w.heap.size w w3) := HB1.out.trans ((BR.out.trans hbar).below (Nat.le_refl _) HB1.out.size)
  clear hown hsm hbar
  go_wp2
  go_ret2
  exact ⟨g1, cap1, xs, g2, cap2, ys, rfl, ⟨F1.out, F2.out⟩, ⟨hl, hl2⟩, BT.out⟩

theorem free_self (xs : List Q4) (h : progOk xs = true) : serialFree xs xs = (((boxesTo putsQ xs 4).length : Int) == 0) := by
  cases e : boxesTo putsQ xs 4 with
  | nil =>
    have h2 : ∀ l, meetI l [] = false := fun l => by rw [meetI_comm]; rfl
    simp [serialFree, h, e, h2]
    rfl
  | cons x r =>
    have h1 : meetI (x :: r) (x :: r) = true := meetI_iff.2 ⟨x, by simp, by simp⟩
    have h2 : (((x :: r).length : Int) == 0) = false := by rw [beq_eq_false_iff_ne]; simp; omega
    rw [h2]
    simp [serialFree, h, e, h1]
theorem free_none (xs ys : List Q4) (h : progOk xs = true) (h' : progOk ys = true) (e : boxesTo putsQ xs 4 = []) (e' : boxesTo putsQ ys 4 = []) : serialFree xs ys = true := by
  have h2 : ∀ l, meetI l [] = false := fun l => by rw [meetI_comm]; rfl
  simp [serialFree, h, h', e, e', h2]
  rfl

set_option maxRecDepth 100000 in
set_option maxHeartbeats 4000000 in
theorem lawSerialFree2 (a : Option Addr) (n c : Nat) (w : World) (h : Bytes w w.heap.size a n) (hc : n ≤ c) (hm : c ≤ maxLen) :
    Calls Try.prog 10 #[.slice a n c] w fun e w' => e = .returned (.bool true) ∧ Below w.heap.size w w' := by
  have HB : Hid (Bytes w w.heap.size a n) := h
  have HM : Hid (c ≤ maxLen) := hm
  clear h
  unfold maxLen at hm
  by_cases hn : n ≤ 1048576
  · have hd : decide ((1048576 : Int) < (n : Int)) = false := by simp; omega
    go_enter Try.func10, Try.ntmps10
    go_wp2_with fail
    refine (drawSerialFree a n c w HB.out hc HM.out).mono ?_
    rintro e w1 ⟨g1, cap1, xs, g2, cap2, ys, rfl, ⟨x1, y1⟩, ⟨lx, ly⟩, hb⟩
    have X1 : Hid (Sl4 w1 (some ⟨g1, 0, none⟩) xs) := .inr ⟨g1, 0, rfl, x1⟩
    have Y1 : Hid (Sl4 w1 (some ⟨g2, 0, none⟩) ys) := .inr ⟨g2, 0, rfl, y1⟩
    have B1 : Hid (Below w.heap.size w w1) := hb
    have nx : xs.length ≤ 2 ^ 40 := by omega
    have ny : ys.length ≤ 2 ^ 40 := by omega
    clear x1 y1 hb lx ly
    go_wp2_with fail
    refine (implSerialFree _ _ cap1 cap2 xs ys w1 X1.out Y1.out nx ny).mono ?_
    rintro e w2 ⟨rfl, b2⟩
    have K2 : Hid (Below w1.heap.size w1 w2) := b2
    clear b2
    go_wp2_with fail
    refine (specSerialFree _ _ cap1 cap2 xs ys w2 (X1.out.below K2.out) (Y1.out.below K2.out) nx ny).mono ?_
    rintro e w3 ⟨rfl, b3⟩
    have K3 : Hid (Below w1.heap.size w1 w3) := K2.out.trans (b3.mono K2.out.size)
    clear b3
    obtain ⟨free, hf⟩ : ∃ f, f = serialFree xs ys := ⟨_, rfl⟩
    rw [← hf]
    have HF : Hid (free = serialFree xs ys) := hf
    clear hf
    have ne' : (free != free) = false := by cases free <;> rfl
    go_wp2_with fail
    refine (specProgOk _ cap1 xs w3 (X1.out.below K3.out) nx).mono ?_
    rintro e w4 ⟨rfl, b4⟩
    have K4 : Hid (Below w1.heap.size w1 w4) := K3.out.trans (b4.mono K3.out.size)
    clear b4 ne'
    cases hx : progOk xs with
    | false =>
      have f0 : free = false := by rw [HF.out]; simp [serialFree, hx]
      subst f0
      go_wp2_with fail
      go_ret
      exact ⟨rfl, B1.out.trans (K4.out.mono B1.out.size)⟩
    | true =>
    have HX : Hid (progOk xs = true) := hx
    clear hx
    go_wp2_with fail
    refine (specProgOk _ cap2 ys w4 (Y1.out.below K4.out) ny).mono ?_
    rintro e w5 ⟨rfl, b5⟩
    have K5 : Hid (Below w1.heap.size w1 w5) := K4.out.trans (b5.mono K4.out.size)
    clear b5
    cases hy : progOk ys with
    | false =>
      have f0 : free = false := by rw [HF.out]; simp [serialFree, hy]
      subst f0
      go_wp2_with fail
      go_ret
      exact ⟨rfl, B1.out.trans (K5.out.mono B1.out.size)⟩
    | true =>
    have HY : Hid (progOk ys = true) := hy
    clear hy
    go_wp2_with fail
    refine (implProgPuts _ cap1 xs nx w5 (X1.out.below K5.out)).mono ?_
    rintro e w6 ⟨⟨v1, rfl, o1⟩, b6⟩
    obtain ⟨a6, c6, rfl, s6, _⟩ := OwnI.open (ys := boxesTo putsQ xs 4) o1
    have K6 : Hid (Below w1.heap.size w1 w6) := K5.out.trans (b6.mono K5.out.size)
    have S6 : Hid (SlI w6 a6 (boxesTo putsQ xs 4)) := s6
    clear o1 b6 s6
    go_wp2_with fail
    refine (implProgPuts _ cap2 ys ny w6 (Y1.out.below K6.out)).mono ?_
    rintro e w7 ⟨⟨v2, rfl, o2⟩, b7⟩
    obtain ⟨a7, c7, rfl, s7, _⟩ := OwnI.open (ys := boxesTo putsQ ys 4) o2
    have K7 : Hid (Below w1.heap.size w1 w7) := K6.out.trans (b7.mono K6.out.size)
    have S7 : Hid (SlI w7 a7 (boxesTo putsQ ys 4)) := s7
    have S6' : Hid (SlI w7 a6 (boxesTo putsQ xs 4)) := S6.out.below b7
    clear o2 b7 s7 S6
    have LP : (boxesTo putsQ xs 4).length ≤ 4 := boxesTo_len putsQ xs 4
    have LQ : (boxesTo putsQ ys 4).length ≤ 4 := boxesTo_len putsQ ys 4
    obtain ⟨pz, hpz⟩ : ∃ pz, (((boxesTo putsQ xs 4).length : Int) == 0) = pz := ⟨_, rfl⟩
    have FS : Hid (∀ W, Below w1.heap.size w1 W → Calls Try.prog 39 #[.slice (some ⟨g1, 0, none⟩) xs.length cap1, .slice (some ⟨g1, 0, none⟩) xs.length cap1] W fun e w' => e = .returned (.bool pz) ∧ Below W.heap.size W w') := fun W hb => by
      rw [← hpz, ← free_self xs HX.out]
      exact implSerialFree _ _ cap1 cap1 xs xs W (X1.out.below hb) (X1.out.below hb) nx nx
    have FN : Hid (boxesTo putsQ xs 4 = [] → boxesTo putsQ ys 4 = [] → free = true) := fun e e' => by rw [HF.out]; exact free_none xs ys HX.out HY.out e e'
    have FM : Hid (free = true → meetI (boxesTo putsQ xs 4) (boxesTo putsQ ys 4) = false) := fun e => by rw [HF.out] at e; exact (free_parts e).2.2.1
    clear HF
    generalize boxesTo putsQ xs 4 = P at *
    generalize boxesTo putsQ ys 4 = Q at *
    go_wp2_with fail
    go_loopw [8, 9] (fun i q wr => ∃ k : Nat, k ≤ P.length ∧ i = .int .i64 k ∧ Below w7.heap.size w7 wr) (fun i _ _ => P.length - (intOf i).toNat)
    case atStart => exact ⟨0, Nat.zero_le _, rfl, Below.refl _ _⟩
    case round =>
      obtain ⟨k, hk, rfl, hB⟩ := hrel
      by_cases hlt : k < P.length
      · have BR : Hid (Below w7.heap.size w7 wr) := hB
        clear hB
        have hki : (k : Int) < (P.length : Int) := by omega
        go_wp2_with fail
        go_loopw [9] (fun q wq => ∃ j : Nat, j ≤ Q.length ∧ q = .int .i64 j ∧ Below w7.heap.size w7 wq) (fun q _ => Q.length - (intOf q).toNat)
        case atStart => exact ⟨0, Nat.zero_le _, rfl, BR.out⟩
        case round =>
          obtain ⟨j, hj, rfl, hB⟩ := hrel
          have BQ : Hid (Below w7.heap.size w7 wr) := hB
          clear hB
          by_cases hlt2 : j < Q.length
          · rcases S6'.out.below BQ.out with h | ⟨b1, o1, rfl, h1⟩
            · subst h; simp at hlt
            rcases S7.out.below BQ.out with h | ⟨b2, o2, rfl, h2⟩
            · subst h; simp at hlt2
            have ca := h1.2 k hlt
            have cb := h2.2 j hlt2
            have hji : (j : Int) < (Q.length : Int) := by omega
            have HYM : Hid (P.getD k 0 = Q.getD j 0 → meetI P Q = true) := meet_yes hlt hlt2
            clear h1 h2
            generalize P.getD k 0 = x at ca HYM
            generalize Q.getD j 0 = y at cb HYM
            by_cases hxy : x = y
            · have f0 : free = false := by
                cases hf : free with
                | false => rfl
                | true => have := FM.out hf; rw [HYM.out hxy] at this; cases this
              subst f0
              have hb : (x == y) = true := by simpa using hxy
              clear HYM hxy
              go_upto_region 17 with fail
              go_quiet (fail)
              go_wp2_with fail
              go_roundw
              case rel => exact ⟨j + 1, by omega, by go_num, ⟨BQ.out.os, BQ.out.tape, BQ.out.output, BQ.out.size, BQ.out.block⟩⟩
              case measure => simp [intOf]; omega
            · have hb : (x == y) = false := by simpa using hxy
              clear HYM hxy
              go_upto_region 17 with fail
              go_quiet (fail)
              go_wp2_with fail
              go_roundw
              case rel => exact ⟨j + 1, by omega, by go_num, ⟨BQ.out.os, BQ.out.tape, BQ.out.output, BQ.out.size, BQ.out.block⟩⟩
              case measure => simp [intOf]; omega
          · have hji : ¬ (j : Int) < (Q.length : Int) := by omega
            go_wp2_with fail
            go_roundw
            case rel => exact ⟨k + 1, by omega, by go_num, BQ.out⟩
            case measure => simp [intOf]; omega
      · have hki : ¬ (k : Int) < (P.length : Int) := by omega
        have KR : Hid (Below w1.heap.size w1 wr) := K7.out.trans (hB.mono K7.out.size)
        clear hB
        go_wp2_with fail
        refine Calls.mono (FS.out wr KR.out) ?_
        rintro e w8 ⟨rfl, b8⟩
        have K8 : Hid (Below w1.heap.size w1 w8) := KR.out.trans (b8.mono KR.out.size)
        clear b8 KR
        by_cases hs : 0 < P.length + Q.length
        · have hs' : decide ((0 : Int) < (P.length : Int) + (Q.length : Int)) = true := by simp; omega
          have hs2 : (0 : Int) < (P.length : Int) + (Q.length : Int) := by omega
          clear FN
          go_wp2_with fail
          go_ret
          exact ⟨rfl, B1.out.trans (K8.out.mono B1.out.size)⟩
        · have f1 : free = true := FN.out (List.eq_nil_of_length_eq_zero (by omega)) (List.eq_nil_of_length_eq_zero (by omega))
          subst f1
          have hs' : decide ((0 : Int) < (P.length : Int) + (Q.length : Int)) = false := by simp; omega
          have hs2 : ¬ (0 : Int) < (P.length : Int) + (Q.length : Int) := by omega
          clear FN
          go_wp2_with fail
          go_ret
          exact ⟨rfl, B1.out.trans (K8.out.mono B1.out.size)⟩
  · have hd : decide ((1048576 : Int) < (n : Int)) = true := by simp; omega
    go_enter Try.func10, Try.ntmps10
    go_wp2_with fail
    go_ret
    exact ⟨rfl, Below.refl _ _⟩
end Go.Proofs.Ytiibonnchmphcaa.Own
