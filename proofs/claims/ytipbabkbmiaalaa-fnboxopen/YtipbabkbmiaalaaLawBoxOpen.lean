/-
  Own text: laws.FnBoxOpen.
-/
import Derived.Test.YtipbabkbmiaalaaDraw
import Derived.Test.YtipbabkbmiaalaaLawOk
import Derived.Test.YtipbabkbmiaalaaSame
import Derived.OwnWalk
namespace Go.Proofs.Ytipbabkbmiaalaa.Own
open Go.RowKit

theorem owned_box {w : World} {base m : Nat} {v : Value} {xs : List (Int × Int)} (h : w.ownsRow base 29 2 v m (flat xs)) (hm : 0 < m) :
    ∃ g cap, v = .slice (some ⟨g, 0, none⟩) m cap ∧ base ≤ g ∧ m ≤ cap ∧ BoxAt w g 0 xs ∧ (∀ o, w.frozen? ⟨g, o, none⟩ = false) := by
  obtain ⟨hl, h⟩ := h
  rcases h with ⟨_, h0⟩ | ⟨g, cap, cur, hv, hb, hh, hmc, _, hsz, htk⟩
  · omega
  refine ⟨g, cap, hv, hb, hmc, ⟨(Array.getElem?_eq_some_iff.1 hh).1, fun i hi => ?_⟩, fun o => frozen_heap hh o⟩
  have e := flat_even xs i hi
  rw [flat_length] at hl
  rw [← htk] at e
  rw [cell_heap hh, cell_heap hh, Nat.zero_add]
  rw [List.getElem?_take_of_lt (by omega), List.getElem?_take_of_lt (by omega)] at e
  simpa using e

theorem flat_at0 {w : World} {b : Nat} {xs : List (Int × Int)} (h : BoxAt w b 0 xs) (j : Nat) (v : Value) (hv : (flat xs)[j]? = some v) : w.cell? ((⟨b, 0, none⟩ : Addr).add j) = some v := by
  have e : (⟨b, 0, none⟩ : Addr).add j = ⟨b, j, none⟩ := by unfold Addr.add; split <;> simp_all
  have hl : j < (flat xs).length := (List.getElem?_eq_some_iff.1 hv).1
  rw [flat_length] at hl
  have hk : j / 2 < xs.length := by omega
  have f := flat_even _ (j / 2) hk
  have hx := h.2 (j / 2) hk
  rw [Nat.zero_add] at hx
  rw [e]
  rcases Nat.mod_two_eq_zero_or_one j with m | m
  · rw [show j / 2 * 2 = j by omega] at f hx
    rw [hx.1, ← f.1, hv]
  · rw [show j / 2 * 2 + 1 = j by omega] at f hx
    rw [hx.2, ← f.2, hv]

theorem not_ok {xs : List (Int × Int)} (i : Nat) (hi : i < xs.length) (v : Int × Int) (hv : boxOk1 v = false) : boxOk (xs.set i v) = false := by
  unfold boxOk
  rw [all_false (p := boxOk1) (k := i) (0, 0) (by rw [List.length_set]; exact hi) (by rw [getD_set _ _ _ _ hi, if_pos rfl]; exact hv)]
  simp

theorem set_ne {xs : List (Int × Int)} (i : Nat) (hi : i < xs.length) (v : Int × Int) (hv : v ≠ xs.getD i (0, 0)) : (xs.set i v == xs) = false := by
  apply ne_of_getD (k := i)
  rw [getD_set _ _ _ _ hi, if_pos rfl]
  exact hv

theorem ok_at {xs : List (Int × Int)} (h : boxOk xs = true) (i : Nat) (hi : i < xs.length) : boxOk1 (xs.getD i (0, 0)) = true := by
  unfold boxOk at h
  simp only [Bool.and_eq_true] at h
  exact List.all_eq_true.1 h.2 _ (by simp [List.getD, hi])

theorem own_empty (w : World) (N : Nat) (hN : w.heap.size = N) : (w.alloc (.cells #[] 29)).ownsRow N 29 2 (.slice (some ⟨N, 0, none⟩) 0 0) 0 [] := by
  subst hN
  exact ⟨rfl, .inr ⟨w.heap.size, 0, #[], rfl, Nat.le_refl _, heap_new _ _, Nat.le_refl _, by unfold maxLen; omega, rfl, rfl⟩⟩

theorem small_max {n : Nat} (h : n ≤ 4) : 0 + n ≤ maxLen := by unfold maxLen; omega

/-- What an append onto an empty row of one's own leaves. -/
theorem grown_box {w w' : World} {v' : Value} {xs : List (Int × Int)} {N : Nat} (hN : w.heap.size = N) (hl : 0 < xs.length) (h : w'.ownsRow N 29 2 v' xs.length (flat xs)) (hg : (w.alloc (.cells #[] 29)).grownBy w' (Value.slice (some ⟨N, 0, none⟩) 0 0).ownBlock) :
    ∃ g cap, v' = .slice (some ⟨g, 0, none⟩) xs.length cap ∧ N ≤ g ∧ xs.length ≤ cap ∧ BoxAt w' g 0 xs ∧ (∀ o, w'.frozen? ⟨g, o, none⟩ = false) ∧ Below N w w' := by
  subst hN
  obtain ⟨g, cap, h1, h2, h3, h4, h5⟩ := owned_box h hl
  refine ⟨g, cap, h1, h2, h3, h4, h5, ?_⟩
  refine Below.grown ((Below.refl _ _).alloc (Nat.le_refl _) _) hg (by rw [size_new]; omega) ?_
  intro k hk
  simp only [Value.ownBlock] at hk
  injection hk with hk
  omega

theorem implOkN (a : Option Addr) (n c : Nat) (xs : List (Int × Int)) (w : World) (hn : xs.length = n) (h : Sl w a xs) (hc : n ≤ c) :
    Calls Try.prog 9 #[.slice a n c] w fun e w' => e = .returned (.bool (boxOk xs)) ∧ Below w.heap.size w w' := by
  subst hn
  exact implOk a c xs w h hc

theorem implSameN (a1 a2 : Option Addr) (n1 n2 c1 c2 : Nat) (xs ys : List (Int × Int)) (w : World) (e1 : xs.length = n1) (e2 : ys.length = n2) (h1 : Sl w a1 xs) (h2 : Sl w a2 ys) (l1 : n1 ≤ c1) (l2 : n2 ≤ c2) (m1 : n1 ≤ 2 ^ 60) :
    Calls Try.prog 11 #[.slice a1 n1 c1, .slice a2 n2 c2] w fun e w' => e = .returned (.bool (xs == ys)) ∧ Below w.heap.size w w' := by
  subst e1 e2
  exact implSame a1 a2 c1 c2 xs ys w h1 h2 l1 l2 m1

set_option maxHeartbeats 4000000 in
theorem lawBoxOpen (a : Option Addr) (n c : Nat) (w : World) (h : Bytes w w.heap.size a n) (hc : n ≤ c) (hm : c ≤ maxLen) :
    Calls Try.prog 3 #[.slice a n c] w fun e w' => e = .returned (.bool true) ∧ Below w.heap.size w w' := by
  have HB : Hid (Bytes w w.heap.size a n) := h
  have HM : Hid (c ≤ maxLen) := hm
  clear h
  unfold maxLen at hm
  by_cases hn : n ≤ 1048576
  · have hd : decide ((1048576 : Int) < (n : Int)) = false := by simp; omega
    go_enter Try.func3, Try.ntmps3
    go_wp2_with fail
    refine (drawBoxOk a n c w HB.out hc HM.out).mono ?_
    rintro e w1 ⟨xs, ob, hl, rfl, hat, hrow, hob, hb⟩
    have A1 : Hid (BoxAt w1 ob 0 xs) := hat
    have L : Hid (xs.length = 3 ∨ xs.length = 4) := hl
    have B1 : Hid (Below w.heap.size w w1) := hb
    have hl4 : xs.length ≤ 4 := by omega
    have hl0 : 0 < xs.length := by omega
    clear hat hl hb hrow
    go_wp2_with fail
    refine (implOpen w1).mono ?_
    rintro e w2 ⟨rfl, h2, hb2, hs2⟩
    have A2 : Hid (BoxAt w2 ob 0 xs) := A1.out.below hb2
    have Z2 : Hid (BoxAt w2 (w1.heap.size + 1) 0 zero4) := zeros_at h2
    have B2 : Hid (Below w.heap.size w w2) := B1.out.trans (hb2.mono B1.out.size)
    clear h2 hb2 hs2
    go_wp2_with fail
    refine (implOk _ 4 xs w2 (.inr ⟨_, _, rfl, A2.out⟩) hl4).mono ?_
    rintro e w3 ⟨rfl, hb3⟩
    have A3 : Hid (BoxAt w3 ob 0 xs) := A2.out.below hb3
    have Z3 : Hid (BoxAt w3 (w1.heap.size + 1) 0 zero4) := Z2.out.below hb3
    have B3 : Hid (Below w.heap.size w w3) := B2.out.trans (hb3.mono B2.out.size)
    clear hb3
    go_wp2_with fail
    refine (specOk _ 4 xs w3 (.inr ⟨_, _, rfl, A3.out⟩) (by omega)).mono ?_
    rintro e w3' ⟨rfl, hw⟩
    subst hw
    go_wp2_with fail
    refine (specOpen w3').mono ?_
    rintro e w4 ⟨rfl, hw4⟩
    have A4 : Hid (BoxAt w4 ob 0 xs) := by show BoxAt _ _ _ _; rw [hw4]; exact A3.out.alloc _
    have Z4 : Hid (BoxAt w4 (w1.heap.size + 1) 0 zero4) := by show BoxAt _ _ _ _; rw [hw4]; exact Z3.out.alloc _
    have Y4 : Hid (BoxAt w4 w3'.heap.size 0 zero4) := by show BoxAt _ _ _ _; rw [hw4]; exact zeros_at (heap_new _ _)
    have B4 : Hid (Below w.heap.size w w4) := by show Below _ _ _; rw [hw4]; exact B3.out.alloc B3.out.size _
    clear hw4
    go_wp2_with fail
    refine (implSame (some ⟨w1.heap.size + 1, 0, none⟩) (some ⟨w3'.heap.size, 0, none⟩) 4 4 zero4 zero4 w4 (.inr ⟨_, _, rfl, Z4.out⟩) (.inr ⟨_, _, rfl, Y4.out⟩) (by decide) (by decide) (by decide)).mono ?_
    rintro e w5 ⟨rfl, hb5⟩
    rw [show (zero4 == zero4) = true from by decide]
    have A5 : Hid (BoxAt w5 ob 0 xs) := A4.out.below hb5
    have B5 : Hid (Below w.heap.size w w5) := B4.out.trans (hb5.mono B4.out.size)
    clear hb5
    by_cases hok : boxOk xs = true
    · have hl : Hid (xs.length = 4) := by
        have := hok
        unfold boxOk at this
        simp at this
        exact this.1
      go_wp2_with fail
      refine (specOk _ 4 xs w5 (.inr ⟨_, _, rfl, A5.out⟩) (by omega)).mono ?_
      rintro e w5' ⟨rfl, hw⟩
      subst hw
      rw [hok]
      have HOK : Hid (boxOk xs = true) := hok
      clear hok
      go_wp2_with fail
      go_loopw [5] (fun i wr => ∃ k : Nat, k ≤ xs.length ∧ i = .int .i64 k ∧ BoxAt wr ob 0 xs ∧ Below w.heap.size w wr) (fun i _ => xs.length - (intOf i).toNat)
      case atStart => exact ⟨0, Nat.zero_le _, rfl, A5.out, B5.out⟩
      case round =>
        obtain ⟨k, hk, rfl, hat, hB⟩ := hrel
        have A : Hid (BoxAt wr ob 0 xs) := hat
        have HBw : Hid (Below w.heap.size w wr) := hB
        clear hat hB
        by_cases hlt : k < xs.length
        · obtain ⟨i0, hi, hz0, hz1, hz2⟩ := info_parts infoBox
          have I0 : Hid (Try.prog.info? 29 = some i0 ∧ i0.zero = some (.agg #[.int .i64 0, .int .i64 0]) ∧ i0.size = 2 ∧ i0.bytes = 16) := ⟨hi, hz0, hz1, hz2⟩
          clear hi hz0 hz1 hz2
          go_wp2_with (at_builtin; refine wpList_append_own _ rfl (.tmp 39) (.tmp 40) 23 rfl wr.heap.size 29 i0 (.agg #[.int .i64 0, .int .i64 0]) 2 16 Try.underlying23 I0.out.1 I0.out.2.1 I0.out.2.2.1 I0.out.2.2.2 rfl (by decide) (.slice (some ⟨wr.heap.size, 0, none⟩) 0 0) 0 [] rfl (own_empty wr wr.heap.size rfl) ⟨ob, 0, none⟩ xs.length 4 (flat xs) rfl (flat_length xs) (flat_at0 (A.out.alloc _)) (flat_one xs) (small_max hl4) (by omega) (by rw [size_new]; omega) ?_)
          intro v1 w6 hown hgr _
          obtain ⟨g1, cap1, rfl, hg1, hcap1, hat1, hfr1, hb6⟩ := grown_box rfl hl0 hown hgr
          have hob1 : ob ≠ g1 := by have := A.out.1; omega
          have c1 := (hat1.2 k hlt).2
          rw [Nat.zero_add] at c1
          have f1 := hfr1 (k * 2 + 1)
          have A6 : Hid (BoxAt (w6.setCell ⟨g1, k * 2 + 1, none⟩ (.int .i64 1000001)) ob 0 xs) := (A.out.below hb6).only ((Only.refl g1 w6).setCell _) hob1
          have X6 : Hid (BoxAt (w6.setCell ⟨g1, k * 2 + 1, none⟩ (.int .i64 1000001)) g1 0 (xs.set k ((xs.getD k (0, 0)).1, 1000001))) := by
            have := hat1.setVal k hlt 1000001
            rw [Nat.zero_add] at this
            exact this
          have B6 : Hid (Below w.heap.size w (w6.setCell ⟨g1, k * 2 + 1, none⟩ (.int .i64 1000001))) := (HBw.out.trans (hb6.mono HBw.out.size)).setCell (Nat.le_trans HBw.out.size hg1) _
          have E6 : Hid ((w6.setCell ⟨g1, k * 2 + 1, none⟩ (.int .i64 1000001)).heap.size = w6.heap.size) := by show _ = _; simp [World.setCell]
          clear hown hgr hat1 hfr1 hb6 hg1
          go_wp2_with (at_builtin; refine wpList_append_own _ rfl (.tmp 46) (.tmp 47) 23 rfl w6.heap.size 29 i0 (.agg #[.int .i64 0, .int .i64 0]) 2 16 Try.underlying23 I0.out.1 I0.out.2.1 I0.out.2.2.1 I0.out.2.2.2 rfl (by decide) (.slice (some ⟨w6.heap.size, 0, none⟩) 0 0) 0 [] rfl (own_empty (w6.setCell ⟨g1, k * 2 + 1, none⟩ (.int .i64 1000001)) w6.heap.size E6.out) ⟨ob, 0, none⟩ xs.length 4 (flat xs) rfl (flat_length xs) (flat_at0 (A6.out.alloc _)) (flat_one xs) (small_max hl4) (by omega) (by rw [size_new, E6.out]; omega) ?_)
          intro v2 w7 hown hgr _
          obtain ⟨g2, cap2, rfl, hg2, hcap2, hat2, hfr2, hb7⟩ := grown_box E6.out hl0 hown hgr
          have hob2 : ob ≠ g2 := by have := A6.out.1; have := E6.out; omega
          have hg12 : g1 ≠ g2 := by have := X6.out.1; have := E6.out; omega
          have c2 := (hat2.2 k hlt).1
          rw [Nat.zero_add] at c2
          have f2 := hfr2 (k * 2)
          have hb7' : Below (w6.setCell ⟨g1, k * 2 + 1, none⟩ (.int .i64 1000001)).heap.size (w6.setCell ⟨g1, k * 2 + 1, none⟩ (.int .i64 1000001)) w7 := by rw [E6.out]; exact hb7
          obtain ⟨W8, hW8⟩ : ∃ W8, W8 = w7.setCell ⟨g2, k * 2, none⟩ (.int .i64 (-1)) := ⟨_, rfl⟩
          have A8 : Hid (BoxAt W8 ob 0 xs) := by show BoxAt _ _ _ _; rw [hW8]; exact (A6.out.below hb7').only ((Only.refl g2 w7).setCell _) hob2
          have X8 : Hid (BoxAt W8 g1 0 (xs.set k ((xs.getD k (0, 0)).1, 1000001))) := by show BoxAt _ _ _ _; rw [hW8]; exact (X6.out.below hb7').only ((Only.refl g2 w7).setCell _) hg12
          have Y8 : Hid (BoxAt W8 g2 0 (xs.set k (-1, (xs.getD k (0, 0)).2))) := by
            show BoxAt _ _ _ _
            have := hat2.setVer k hlt (-1)
            rw [Nat.zero_add] at this
            rw [hW8]; exact this
          have B8 : Hid (Below w.heap.size w W8) := by
            show Below _ _ _
            rw [hW8]
            refine (B6.out.trans (hb7'.mono B6.out.size)).setCell ?_ _
            have := B6.out.size; have := E6.out
            show w.heap.size ≤ g2
            omega
          have HW8 : Hid (W8 = w7.setCell ⟨g2, k * 2, none⟩ (.int .i64 (-1))) := hW8
          have l1 : (xs.set k ((xs.getD k (0, 0)).1, 1000001)).length = xs.length := List.length_set
          have l2 : (xs.set k (-1, (xs.getD k (0, 0)).2)).length = xs.length := List.length_set
          have L1 : Hid ((xs.set k ((xs.getD k (0, 0)).1, 1000001)).length = xs.length) := l1
          have L2 : Hid ((xs.set k (-1, (xs.getD k (0, 0)).2)).length = xs.length) := l2
          clear hown hgr hat2 hfr2 hb7 hb7' hg2 hW8 l1 l2
          go_wp2_with fail
          rw [← HW8.out]
          refine (implOkN (some ⟨g1, 0, none⟩) xs.length cap1 (xs.set k ((xs.getD k (0, 0)).1, 1000001)) W8 L1.out (.inr ⟨_, _, rfl, X8.out⟩) hcap1).mono ?_
          rintro e w9 ⟨rfl, b9⟩
          rw [not_ok k hlt _ (by simp [boxOk1, numOk])]
          have A9 : Hid (BoxAt w9 ob 0 xs) := A8.out.below b9
          have X9 : Hid (BoxAt w9 g1 0 (xs.set k ((xs.getD k (0, 0)).1, 1000001))) := X8.out.below b9
          have Y9 : Hid (BoxAt w9 g2 0 (xs.set k (-1, (xs.getD k (0, 0)).2))) := Y8.out.below b9
          have B9 : Hid (Below w.heap.size w w9) := B8.out.trans (b9.mono B8.out.size)
          clear b9 HW8 c1 c2 f1 f2
          go_wp2_with fail
          refine (implOkN (some ⟨g2, 0, none⟩) xs.length cap2 (xs.set k (-1, (xs.getD k (0, 0)).2)) w9 L2.out (.inr ⟨_, _, rfl, Y9.out⟩) hcap2).mono ?_
          rintro e w10 ⟨rfl, b10⟩
          rw [not_ok k hlt _ (by simp [boxOk1, numOk])]
          have A10 : Hid (BoxAt w10 ob 0 xs) := A9.out.below b10
          have X10 : Hid (BoxAt w10 g1 0 (xs.set k ((xs.getD k (0, 0)).1, 1000001))) := X9.out.below b10
          have B10 : Hid (Below w.heap.size w w10) := B9.out.trans (b10.mono B9.out.size)
          clear b10
          go_wp2_with fail
          refine (implSameN (some ⟨g1, 0, none⟩) (some ⟨ob, 0, none⟩) xs.length xs.length cap1 4 (xs.set k ((xs.getD k (0, 0)).1, 1000001)) xs w10 L1.out rfl (.inr ⟨_, _, rfl, X10.out⟩) (.inr ⟨_, _, rfl, A10.out⟩) hcap1 hl4 (by omega)).mono ?_
          rintro e w11 ⟨rfl, b11⟩
          have T : ((xs.set k ((xs.getD k (0, 0)).1, 1000001)) == xs) = false := by
            apply set_ne k hlt
            intro e
            have := ok_at HOK.out k hlt
            rw [← e] at this
            simp [boxOk1, numOk] at this
          rw [T]
          have A11 : Hid (BoxAt w11 ob 0 xs) := A10.out.below b11
          have B11 : Hid (Below w.heap.size w w11) := B10.out.trans (b11.mono B10.out.size)
          clear b11 T
          go_wp2_with fail
          go_roundw
          case rel => exact ⟨k + 1, by omega, by go_num, A11.out, B11.out⟩
          case measure => simp [intOf]; omega
        · go_wp2_with fail
          go_ret
          exact ⟨rfl, HBw.out⟩
    · have hok' : boxOk xs = false := by simpa using hok
      go_wp2_with fail
      refine (specOk _ 4 xs w5 (.inr ⟨_, _, rfl, A5.out⟩) (by omega)).mono ?_
      rintro e w5' ⟨rfl, hw⟩
      subst hw
      rw [hok']
      go_wp2_with fail
      go_ret
      exact ⟨rfl, B5.out⟩
  · go_enter Try.func3, Try.ntmps3
    go_wp2_with fail
    go_ret
    exact ⟨rfl, Below.refl _ _⟩
end Go.Proofs.Ytipbabkbmiaalaa.Own
