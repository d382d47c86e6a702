/-
  Own text: what spec.l4Meet and spec.SerialFree do.
-/
import Derived.Test.YtgcencilgpilaaaPk8
import Derived.Test.YtgcencilgpilaaaQBoxesSL
import Derived.Test.YtgcencilgpilaaaQBoxesSP
import Derived.Test.YtgcencilgpilaaaPk4
import Derived.Test.YtgcencilgpilaaaPk6
import Derived.BigQuiet
namespace Go.Proofs.Ytgcencilgpilaaa.Own
open Go.RowKit
set_option linter.unusedVariables false
set_option linter.unusedSimpArgs false

theorem meet_take (xs ys : List Int) (k : Nat) (h : k < xs.length) : meetI (xs.take (k + 1)) ys = (meetI (xs.take k) ys || ys.any fun y => xs.getD k 0 == y) := by
  unfold meetI
  rw [List.take_succ_eq_append_getElem h, List.any_append]
  simp [List.getD, h]
theorem meet_yes {xs ys : List Int} {k j : Nat} (h : k < xs.length) (h2 : j < ys.length) (e : xs.getD k 0 = ys.getD j 0) : meetI xs ys = true :=
  meetI_iff.2 ⟨xs.getD k 0, by simp [List.getD, h], by rw [e]; simp [List.getD, h2]⟩

set_option maxRecDepth 100000 in
set_option maxHeartbeats 2000000 in
theorem l4MeetC (a1 a2 : Option Addr) (c1 c2 : Nat) (xs ys : List Int) (w : World) (h1 : SlI w a1 xs) (h2 : SlI w a2 ys) (n1 : xs.length ≤ 2 ^ 40) (n2 : ys.length ≤ 2 ^ 40) :
    Calls Try.prog 89 #[.slice a1 xs.length c1, .slice a2 ys.length c2] w fun e w' => e = .returned (.bool (meetI xs ys)) ∧ Below w.heap.size w w' := by
  have H1 : Hid (SlI w a1 xs) := h1
  have H2 : Hid (SlI w a2 ys) := h2
  clear h1 h2
  go_enter Try.func89, Try.ntmps89
  go_wp2_with fail
  go_loopw [5, 6] (fun i q wr => ∃ k : Nat, k ≤ xs.length ∧ i = .int .i64 k ∧ Hid (meetI (xs.take k) ys = false) ∧ Below w.heap.size w wr) (fun i _ _ => xs.length - (intOf i).toNat)
  case atStart => exact ⟨0, Nat.zero_le _, rfl, rfl, Below.refl _ _⟩
  case round =>
    obtain ⟨k, hk, rfl, hA, hB⟩ := hrel
    by_cases hlt : k < xs.length
    · have BR : Hid (Below w.heap.size w wr) := hB
      clear hB
      have hki : (k : Int) < (xs.length : Int) := by omega
      go_wp2_with fail
      go_loopw [6] (fun q wq => ∃ j : Nat, j ≤ ys.length ∧ q = .int .i64 j ∧ Hid ((ys.take j).any (fun y => xs.getD k 0 == y) = false) ∧ Below w.heap.size w wq) (fun q _ => ys.length - (intOf q).toNat)
      case atStart => exact ⟨0, Nat.zero_le _, rfl, rfl, BR.out⟩
      case round =>
        obtain ⟨j, hj, rfl, hC, hB⟩ := hrel
        have BQ : Hid (Below w.heap.size w wr) := hB
        clear hB
        by_cases hlt2 : j < ys.length
        · rcases H1.out.below BQ.out with h | ⟨b1, o1, rfl, h1⟩
          · subst h; simp at hlt
          rcases H2.out.below BQ.out with h | ⟨b2, o2, rfl, h2⟩
          · subst h; simp at hlt2
          have ca := h1.2 k hlt
          have cb := h2.2 j hlt2
          have hji : (j : Int) < (ys.length : Int) := by omega
          have HT : Hid ((ys.take (j + 1)).any (fun y => xs.getD k 0 == y) = ((ys.take j).any (fun y => xs.getD k 0 == y) || xs.getD k 0 == ys.getD j 0)) := any_take_succ 0 hlt2
          have HY : Hid (xs.getD k 0 = ys.getD j 0 → meetI xs ys = true) := meet_yes hlt hlt2
          clear h1 h2
          generalize xs.getD k 0 = x at ca hC HT HY ⊢
          generalize ys.getD j 0 = y at cb HT HY
          go_upto_region 7 with fail
          go_quiet (fail)
          by_cases hxy : x = y
          · have hb : (x == y) = true := by simpa using hxy
            have E : Hid (meetI xs ys = true) := HY.out hxy
            clear HY HT
            go_wp2
            go_ret
            exact ⟨ret_bool E.out.symm, ⟨BQ.out.os, BQ.out.tape, BQ.out.output, BQ.out.size, BQ.out.block⟩⟩
          · have hb : (x == y) = false := by simpa using hxy
            have E : Hid ((ys.take (j + 1)).any (fun z => x == z) = false) := by show _ = _; rw [HT.out, hC.out, hb]; rfl
            clear HY HT
            go_wp2
            go_roundw
            case rel => exact ⟨j + 1, by omega, by go_num, E, ⟨BQ.out.os, BQ.out.tape, BQ.out.output, BQ.out.size, BQ.out.block⟩⟩
            case measure => simp [intOf]; omega
        · have hj' : j = ys.length := by omega
          subst hj'
          have E : Hid (meetI (xs.take (k + 1)) ys = false) := by
            show _ = _
            rw [meet_take _ _ _ hlt, hA.out]
            have := hC.out
            rw [List.take_length] at this
            rw [this]; rfl
          go_wp2
          go_roundw
          case rel => exact ⟨k + 1, by omega, by go_num, E, BQ.out⟩
          case measure => simp [intOf]; omega
    · have : k = xs.length := by omega
      subst this
      have E : Hid (meetI xs ys = false) := by have := hA.out; rw [List.take_length] at this; exact this
      go_wp2
      go_ret
      exact ⟨ret_bool E.out.symm, hB⟩

theorem l4MeetV (v1 v2 : Value) (B1 B2 : Nat) (xs ys : List Int) (w : World) (h1 : OwnI w B1 v1 xs) (h2 : OwnI w B2 v2 ys) (n1 : xs.length ≤ 2 ^ 40) (n2 : ys.length ≤ 2 ^ 40) :
    Calls Try.prog 89 #[v1, v2] w fun e w' => e = .returned (.bool (meetI xs ys)) ∧ Below w.heap.size w w' := by
  obtain ⟨a1, c1, rfl, s1, _⟩ := h1.open
  obtain ⟨a2, c2, rfl, s2, _⟩ := h2.open
  exact l4MeetC a1 a2 c1 c2 xs ys w s1 s2 n1 n2

set_option maxRecDepth 100000 in
set_option maxHeartbeats 2000000 in
theorem specSerialFree (a1 a2 : Option Addr) (c1 c2 : Nat) (xs ys : List Q4) (w : World) (h1 : Sl4 w a1 xs) (h2 : Sl4 w a2 ys) (n1 : xs.length ≤ 2 ^ 40) (n2 : ys.length ≤ 2 ^ 40) :
    Calls Try.prog 31 #[.slice a1 xs.length c1, .slice a2 ys.length c2] w fun e w' => e = .returned (.bool (serialFree xs ys)) ∧ Below w.heap.size w w' := by
  have H1 : Hid (Sl4 w a1 xs) := h1
  have H2 : Hid (Sl4 w a2 ys) := h2
  clear h1 h2
  have LL : ∀ (f : Q4 → Int → Bool) (zs : List Q4), (boxesTo f zs 4).length ≤ 2 ^ 40 := fun f zs => by have := boxesTo_len f zs 4; omega
  have E : Hid (serialFree xs ys = (progOk xs && progOk ys && !meetI (boxesTo putsQ xs 4) (boxesTo putsQ ys 4) && !meetI (boxesTo putsQ xs 4) (boxesTo loadsQ ys 4) && !meetI (boxesTo loadsQ xs 4) (boxesTo putsQ ys 4))) := rfl
  go_enter Try.func31, Try.ntmps31
  go_wp2_with fail
  refine (specProgOk a1 c1 xs w H1.out n1).mono ?_
  rintro e w1 ⟨rfl, b1⟩
  have B1 : Hid (Below w.heap.size w w1) := b1
  clear b1
  cases hx : progOk xs with
  | false =>
    go_wp2_with fail
    go_ret
    exact ⟨ret_bool (by rw [E.out, hx]; rfl), B1.out⟩
  | true =>
  go_wp2_with fail
  refine (specProgOk a2 c2 ys w1 (H2.out.below B1.out) n2).mono ?_
  rintro e w2 ⟨rfl, b2⟩
  have B2 : Hid (Below w.heap.size w w2) := B1.out.trans (b2.mono B1.out.size)
  clear b2
  cases hy : progOk ys with
  | false =>
    go_wp2_with fail
    go_ret
    exact ⟨ret_bool (by rw [E.out, hx, hy]; rfl), B2.out⟩
  | true =>
  go_wp2_with fail
  refine (specProgPuts a1 c1 xs w2 (H1.out.below B2.out) n1).mono ?_
  rintro e w3 ⟨⟨v3, rfl, o3⟩, b3⟩
  have B3 : Hid (Below w.heap.size w w3) := B2.out.trans (b3.mono B2.out.size)
  have O3 : Hid (OwnI w3 w2.heap.size v3 (boxesTo putsQ xs 4)) := o3
  clear b3 o3
  go_wp2_with fail
  refine (specProgPuts a2 c2 ys w3 (H2.out.below B3.out) n2).mono ?_
  rintro e w4 ⟨⟨v4, rfl, o4⟩, b4⟩
  have B4 : Hid (Below w.heap.size w w4) := B3.out.trans (b4.mono B3.out.size)
  have O4 : Hid (OwnI w4 w3.heap.size v4 (boxesTo putsQ ys 4)) := o4
  have O3' : Hid (OwnI w4 w2.heap.size v3 (boxesTo putsQ xs 4)) := O3.out.keep b4
  clear b4 o4
  go_wp2_with fail
  refine (l4MeetV v3 v4 _ _ _ _ w4 O3'.out O4.out (LL _ _) (LL _ _)).mono ?_
  rintro e w5 ⟨rfl, b5⟩
  have B5 : Hid (Below w.heap.size w w5) := B4.out.trans (b5.mono B4.out.size)
  clear b5
  cases h1 : meetI (boxesTo putsQ xs 4) (boxesTo putsQ ys 4) with
  | true =>
    go_wp2_with fail
    go_ret
    exact ⟨ret_bool (by rw [E.out, hx, hy, h1]; rfl), B5.out⟩
  | false =>
  go_wp2_with fail
  refine (specProgPuts a1 c1 xs w5 (H1.out.below B5.out) n1).mono ?_
  rintro e w6 ⟨⟨v6, rfl, o6⟩, b6⟩
  have B6 : Hid (Below w.heap.size w w6) := B5.out.trans (b6.mono B5.out.size)
  have O6 : Hid (OwnI w6 w5.heap.size v6 (boxesTo putsQ xs 4)) := o6
  clear b6 o6
  go_wp2_with fail
  refine (specProgLoads a2 c2 ys w6 (H2.out.below B6.out) n2).mono ?_
  rintro e w7 ⟨⟨v7, rfl, o7⟩, b7⟩
  have B7 : Hid (Below w.heap.size w w7) := B6.out.trans (b7.mono B6.out.size)
  have O7 : Hid (OwnI w7 w6.heap.size v7 (boxesTo loadsQ ys 4)) := o7
  have O6' : Hid (OwnI w7 w5.heap.size v6 (boxesTo putsQ xs 4)) := O6.out.keep b7
  clear b7 o7
  go_wp2_with fail
  refine (l4MeetV v6 v7 _ _ _ _ w7 O6'.out O7.out (LL _ _) (LL _ _)).mono ?_
  rintro e w8 ⟨rfl, b8⟩
  have B8 : Hid (Below w.heap.size w w8) := B7.out.trans (b8.mono B7.out.size)
  clear b8
  cases h2 : meetI (boxesTo putsQ xs 4) (boxesTo loadsQ ys 4) with
  | true =>
    go_wp2_with fail
    go_ret
    exact ⟨ret_bool (by rw [E.out, hx, hy, h1, h2]; rfl), B8.out⟩
  | false =>
  go_wp2_with fail
  refine (specProgLoads a1 c1 xs w8 (H1.out.below B8.out) n1).mono ?_
  rintro e w9 ⟨⟨v9, rfl, o9⟩, b9⟩
  have B9 : Hid (Below w.heap.size w w9) := B8.out.trans (b9.mono B8.out.size)
  have O9 : Hid (OwnI w9 w8.heap.size v9 (boxesTo loadsQ xs 4)) := o9
  clear b9 o9
  go_wp2_with fail
  refine (specProgPuts a2 c2 ys w9 (H2.out.below B9.out) n2).mono ?_
  rintro e wa ⟨⟨va, rfl, oa⟩, ba⟩
  have Ba : Hid (Below w.heap.size w wa) := B9.out.trans (ba.mono B9.out.size)
  have Oa : Hid (OwnI wa w9.heap.size va (boxesTo putsQ ys 4)) := oa
  have O9' : Hid (OwnI wa w8.heap.size v9 (boxesTo loadsQ xs 4)) := O9.out.keep ba
  clear ba oa
  go_wp2_with fail
  refine (l4MeetV v9 va _ _ _ _ wa O9'.out Oa.out (LL _ _) (LL _ _)).mono ?_
  rintro e wb ⟨rfl, bb⟩
  have Bb : Hid (Below w.heap.size w wb) := Ba.out.trans (bb.mono Ba.out.size)
  clear bb
  cases h3 : meetI (boxesTo loadsQ xs 4) (boxesTo putsQ ys 4) with
  | true =>
    go_wp2_with fail
    go_ret
    exact ⟨ret_bool (by rw [E.out, hx, hy, h1, h2, h3]; rfl), Bb.out⟩
  | false =>
    go_wp2_with fail
    go_ret
    exact ⟨ret_bool (by rw [E.out, hx, hy, h1, h2, h3]; rfl), Bb.out⟩
end Go.Proofs.Ytgcencilgpilaaa.Own
