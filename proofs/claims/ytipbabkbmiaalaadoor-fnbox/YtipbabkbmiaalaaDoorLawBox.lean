/-
  Own text: laws.FnBox.
-/
import Derived.Test.YtipbabkbmiaalaaDoorLawRead
import Derived.Test.YtipbabkbmiaalaaDoorDrawRead
import Derived.Test.YtipbabkbmiaalaaDoorTextImpl
import Derived.Test.YtipbabkbmiaalaaDoorSame
namespace Go.Proofs.YtipbabkbmiaalaaDoor.Own
open Go.RowKit
set_option linter.unusedVariables false
set_option linter.unusedSimpArgs false

theorem four2 {xs : List (Int × Int)} (h : xs.length = 4) : [((fromD xs 0 0).1, (fromD xs 0 0).2), ((fromD xs 0 1).1, (fromD xs 0 1).2), ((fromD xs 0 2).1, (fromD xs 0 2).2), ((fromD xs 0 3).1, (fromD xs 0 3).2)] = xs := by
  match xs, h with
  | [a, b, c, d], _ => rfl

set_option maxHeartbeats 1000000 in
theorem implOk2 (a : Option Addr) (c : Nat) (xs : List (Int × Int)) (w : World) (h : Sl w a xs) (hc : xs.length ≤ c) :
    Calls Tryd.prog 11 #[.slice a xs.length c] w fun e w' => e = .returned (.bool (boxOk xs)) ∧ Below w.heap.size w w' := by
  have E : Hid (boxOk xs = (xs.length == 4 && xs.all boxOk1)) := rfl
  by_cases hl : xs.length = 4
  · have hl' : ((xs.length : Int) == 4) = true := by simp [hl]
    have HL : Hid (xs.length = 4) := hl
    clear hl
    go_enter Tryd.func11, Tryd.ntmps11
    go_wp2_with fail
    refine (boxesFrom a c xs 0 w h hc (Nat.zero_le _)).mono ?_
    rintro e w1 ⟨rfl, hb1⟩
    go_wp2_with fail
    refine (arrOk _ _ _ _ _ _ _ _ _).mono ?_
    rintro e w2 ⟨rfl, hb2⟩
    rw [four2 HL.out]
    have B2 : Hid (Below w.heap.size w w2) := hb1.trans (hb2.mono hb1.size)
    clear hb1 hb2
    go_wp2
    go_ret
    refine ⟨ret_bool ?_, B2.out⟩
    rw [E.out, HL.out]; rfl
  · have hl' : ((xs.length : Int) == 4) = false := by simp; omega
    go_enter Tryd.func11, Tryd.ntmps11
    go_wp2
    go_ret
    refine ⟨ret_bool ?_, Below.refl _ _⟩
    rw [E.out]; simp [hl]

theorem Bytes.below2 {w w' : World} {a : Option Addr} {n : Nat} (h : Bytes w w.heap.size a n) (hb : Below w.heap.size w w') : Bytes w' w'.heap.size a n := by
  rcases h with h | ⟨b, off, rfl, hl, hz⟩
  · exact .inl h
  · refine .inr ⟨b, off, rfl, Nat.lt_of_lt_of_le hl hb.size, fun i hi => ?_⟩
    rw [hb.cell (p := ⟨b, off + i, none⟩) hl]; exact hz i hi


theorem okN (a : Option Addr) (n c : Nat) (xs : List (Int × Int)) (w : World) (hn : xs.length = n) (h : Sl w a xs) (hc : n ≤ c) :
    Calls Tryd.prog 11 #[.slice a n c] w fun e w' => e = .returned (.bool (boxOk xs)) ∧ Below w.heap.size w w' := by
  subst hn
  exact implOk2 a c xs w h hc
theorem specOkN (a : Option Addr) (n c : Nat) (xs : List (Int × Int)) (w : World) (hn : xs.length = n) (h : Sl w a xs) (hc : n ≤ 4) :
    Calls Tryd.prog 12 #[.slice a n c] w fun e w' => e = .returned (.bool (boxOk xs)) ∧ w' = w := by
  subst hn
  exact specOk a c xs w h (by omega)
theorem sameN (a1 a2 : Option Addr) (n c1 c2 : Nat) (xs : List (Int × Int)) (w : World) (hn : xs.length = n) (h1 : Sl w a1 xs) (h2 : Sl w a2 xs) (l1 : n ≤ c1) (l2 : n ≤ c2) (m1 : n ≤ 4) :
    Calls Tryd.prog 13 #[.slice a1 n c1, .slice a2 n c2] w fun e w' => e = .returned (.bool true) ∧ Below w.heap.size w w' := by
  subst hn
  have h := implSame a1 a2 c1 c2 xs xs w h1 h2 l1 l2 (by omega)
  rw [show (xs == xs) = true from by simp] at h
  exact h
theorem textN (a : Option Addr) (n c : Nat) (xs : List (Int × Int)) (w : World) (hn : xs.length = n) (s : ByteArray) (hs : s.data.toList = textOf xs) (h : Sl w a xs) (hc : n ≤ 4) (hw : Wf xs) (ht : Tab w) :
    Calls Tryd.prog 8 #[.slice a n c] w fun e w' => e = .returned (.string s) ∧ Below w.heap.size w w' := by
  subst hn
  have h := implText a c xs w h (by omega) hw ht
  rw [textTo_eq _ _ (Nat.le_refl _), List.take_length, ← hs, ← str_eq rfl] at h
  exact h
theorem specTextN (a : Option Addr) (n c : Nat) (xs : List (Int × Int)) (w : World) (hn : xs.length = n) (s : ByteArray) (hs : s.data.toList = textOf xs) (h : Sl w a xs) (hc : n ≤ 4) (hw : Wf xs) :
    Calls Tryd.prog 10 #[.slice a n c] w fun e w' => e = .returned (.string s) ∧ Below w.heap.size w w' := by
  subst hn
  have h := specText a c xs w h (by omega) hw
  rw [textTo_eq _ _ (Nat.le_refl _), List.take_length, ← hs, ← str_eq rfl] at h
  exact h

theorem ok_wf {ys : List (Int × Int)} (h : boxOk ys = true) : Wf ys := by
  obtain ⟨h4, ha⟩ := (boxOk_iff ys).1 h
  intro k hk
  have := ok1_small (ha (ys.getD k (0, 0)) (by simp [List.getD, hk]))
  exact ⟨this.1.fits, this.2.fits⟩

/-- The boxes drawn, as the walk goes on. -/
structure One (w : World) (o : Nat) (xs : List (Int × Int)) (W : World) : Prop where
  x : BoxAt W o 0 xs
  b : Below w.heap.size w W
theorem One.step {w : World} {o : Nat} {xs : List (Int × Int)} {W W' : World} (h : One w o xs W) (hb : Below W.heap.size W W') : One w o xs W' :=
  ⟨h.x.below hb, h.b.trans (hb.mono h.b.size)⟩

set_option maxHeartbeats 8000000 in
theorem lawBox (a1 : Option Addr) (n1 c1 : Nat) (a2 : Option Addr) (n2 c2 : Nat) (w : World) (hE : Env w) (h1 : Bytes w w.heap.size a1 n1) (hc1 : n1 ≤ c1) (hm1 : c1 ≤ maxLen) (h2 : Bytes w w.heap.size a2 n2) (hc2 : n2 ≤ c2) (hm2 : c2 ≤ maxLen) :
    Calls Tryd.prog 3 #[.slice a1 n1 c1, .slice a2 n2 c2] w fun e w' => e = .returned (.bool true) ∧ Below w.heap.size w w' := by
  have HE : Hid (Env w) := hE
  have H1 : Hid (Bytes w w.heap.size a1 n1) := h1
  have H2 : Hid (Bytes w w.heap.size a2 n2) := h2
  have M1 : Hid (c1 ≤ maxLen) := hm1
  have M2 : Hid (c2 ≤ maxLen) := hm2
  clear hE h1 h2
  unfold maxLen at hm1 hm2
  by_cases l1 : ¬ n1 ≤ 1048576
  · go_enter Tryd.func3, Tryd.ntmps3
    go_wp2_with fail
    go_ret
    exact ⟨rfl, Below.refl _ _⟩
  by_cases l2 : ¬ n2 ≤ 1048576
  · have l1' : n1 ≤ 1048576 := by omega
    clear l1
    go_enter Tryd.func3, Tryd.ntmps3
    go_wp2_with fail
    go_ret
    exact ⟨rfl, Below.refl _ _⟩
  have l1' : n1 ≤ 1048576 := by omega
  have l2' : n2 ≤ 1048576 := by omega
  clear l1 l2
  have ok0 : Hid (boxOk zero4 = true) := by show _ = _; decide
  go_enter Tryd.func3, Tryd.ntmps3
  go_wp2_with fail
  refine (drawBoxText a1 n1 c1 w H1.out hc1 M1.out).mono ?_
  rintro e w1 ⟨xs, o1, hl, rfl, hx, sx, ho, hb⟩
  obtain ⟨n, hn⟩ : ∃ n, xs.length = n := ⟨_, rfl⟩
  have HN : Hid (xs.length = n) := hn
  have n4 : n ≤ 4 := by omega
  have SX : Hid (Wf xs) := sx.wf
  have S1 : Hid (One w o1 xs w1) := ⟨hx, hb⟩
  obtain ⟨s, hs⟩ : ∃ s : ByteArray, s.data.toList = textOf xs := ⟨str (textOf xs), str_list _⟩
  have HS : Hid (s.data.toList = textOf xs) := hs
  have hsz : s.size ≤ 176 := by
    have := textTo_len xs SX.out xs.length (Nat.le_refl _)
    rw [textTo_eq _ _ (Nat.le_refl _), List.take_length, ← hs, size_list] at this
    omega
  rw [hn]
  clear hx hb sx hs hl hn ho
  go_wp2_with fail
  refine (textN _ n 4 xs w1 HN.out s HS.out (.inr ⟨_, _, rfl, S1.out.x⟩) n4 SX.out (HE.out.keep S1.out.b).tab).mono ?_
  rintro e w2 ⟨rfl, hb⟩
  have S2 : Hid (One w o1 xs w2) := S1.out.step hb
  clear hb
  obtain ⟨ok, hok⟩ : ∃ ok, boxOk xs = ok := ⟨_, rfl⟩
  have HOK : Hid (boxOk xs = ok) := hok
  clear hok
  cases ok with
  | true =>
    have h4 : n = 4 := by rw [← HN.out]; exact ((boxOk_iff xs).1 HOK.out).1
    subst h4
    go_wp2_with fail
    refine (implGood s xs w2 (by omega) (HE.out.keep S2.out.b) HOK.out HS.out.symm).mono ?_
    rintro e w3 ⟨⟨g, hg, rfl, hat, _⟩, hb⟩
    have S3 : Hid (One w o1 xs w3) := S2.out.step hb
    have G3 : Hid (One w g xs w3) := ⟨hat, S3.out.b⟩
    clear hb hat hg
    go_wp2_with fail
    refine (specTextN _ 4 4 xs w3 HN.out s HS.out (.inr ⟨_, _, rfl, S3.out.x⟩) n4 SX.out).mono ?_
    rintro e w4 ⟨rfl, hb⟩
    have S4 : Hid (One w o1 xs w4) := S3.out.step hb
    have G4 : Hid (One w g xs w4) := G3.out.step hb
    clear hb
    go_wp2_with fail
    refine (okN _ 4 4 xs w4 HN.out (.inr ⟨_, _, rfl, S4.out.x⟩) n4).mono ?_
    rintro e w5 ⟨rfl, hb⟩
    rw [HOK.out]
    have S5 : Hid (One w o1 xs w5) := S4.out.step hb
    have G5 : Hid (One w g xs w5) := G4.out.step hb
    clear hb
    go_wp2_with fail
    refine (specOkN _ 4 4 xs w5 HN.out (.inr ⟨_, _, rfl, S5.out.x⟩) n4).mono ?_
    rintro e w6 ⟨rfl, rfl⟩
    rw [HOK.out]
    go_wp2_with fail
    refine (specOkN _ 4 4 xs w6 HN.out (.inr ⟨_, _, rfl, S5.out.x⟩) n4).mono ?_
    rintro e w7 ⟨rfl, rfl⟩
    rw [HOK.out]
    go_wp2_with fail
    refine (sameN _ _ 4 4 4 xs w7 HN.out (.inr ⟨_, _, rfl, G5.out.x⟩) (.inr ⟨_, _, rfl, S5.out.x⟩) n4 n4 n4).mono ?_
    rintro e w8 ⟨rfl, hb⟩
    have B8 : Hid (Below w.heap.size w w8) := (S5.out.step hb).b
    clear hb
    go_wp2_with fail
    refine (drawBoxRead a2 n2 c2 w8 (H2.out.below2 B8.out) hc2 M2.out).mono ?_
    rintro e w9 ⟨⟨t, rfl, ht⟩, hb⟩
    have B9 : Hid (Below w.heap.size w w9) := B8.out.trans (hb.mono B8.out.size)
    clear hb
    go_wp2_with fail
    refine (implRead t w9 (by omega) (HE.out.keep B9.out)).mono ?_
    rintro e w10 ⟨hr, hb⟩
    have B10 : Hid (Below w.heap.size w w10) := B9.out.trans (hb.mono B9.out.size)
    clear hb
    rcases hr with ⟨ys, g2, oky, hty, hg2, rfl, haty, _⟩ | ⟨hnb, rfl⟩
    · have OKY : Hid (boxOk ys = true) := oky
      have L4 : Hid (ys.length = 4) := ((boxOk_iff ys).1 oky).1
      have WY : Hid (Wf ys) := ok_wf oky
      have TY : Hid (t.data.toList = textOf ys) := hty.symm
      have Y10 : Hid (BoxAt w10 g2 0 ys) := haty
      clear oky hty haty
      go_wp2_with fail
      refine (specRead t w10 (by omega)).mono ?_
      rintro e w11 ⟨hr, hb⟩
      have B11 : Hid (Below w.heap.size w w11) := B10.out.trans (hb.mono B10.out.size)
      have Y11 : Hid (BoxAt w11 g2 0 ys) := Y10.out.below hb
      clear hb
      obtain ⟨v11, rfl⟩ : ∃ v, e = .returned (.tuple #[v, .bool true]) := by
        rcases hr with ⟨zs, g3, cap3, _, _, _, rfl, _⟩ | ⟨hn, _⟩
        · exact ⟨_, rfl⟩
        · exact absurd TY.out.symm (hn ys OKY.out)
      clear hr
      go_wp2_with fail
      refine (textN _ 4 4 ys w11 L4.out t TY.out (.inr ⟨_, _, rfl, Y11.out⟩) (by omega) WY.out (HE.out.keep B11.out).tab).mono ?_
      rintro e w12 ⟨rfl, hb⟩
      have B12 : Hid (Below w.heap.size w w12) := B11.out.trans (hb.mono B11.out.size)
      have Y12 : Hid (BoxAt w12 g2 0 ys) := Y11.out.below hb
      clear hb
      go_wp2_with fail
      refine (okN _ 4 4 ys w12 L4.out (.inr ⟨_, _, rfl, Y12.out⟩) (by omega)).mono ?_
      rintro e w13 ⟨rfl, hb⟩
      rw [OKY.out]
      have B13 : Hid (Below w.heap.size w w13) := B12.out.trans (hb.mono B12.out.size)
      clear hb
      go_wp2_with fail
      refine (implOpen w13).mono ?_
      rintro e w14 ⟨rfl, h14, hb, _⟩
      have Z14 : Hid (BoxAt w14 (w13.heap.size + 1) 0 zero4) := zeros_at h14
      have B14 : Hid (Below w.heap.size w w14) := B13.out.trans (hb.mono B13.out.size)
      clear hb h14
      go_wp2_with fail
      refine (okN _ 4 4 zero4 w14 rfl (.inr ⟨_, _, rfl, Z14.out⟩) (by omega)).mono ?_
      rintro e w15 ⟨rfl, hb⟩
      rw [ok0.out]
      have B15 : Hid (Below w.heap.size w w15) := B14.out.trans (hb.mono B14.out.size)
      clear hb
      go_wp2_with fail
      go_ret
      exact ⟨rfl, B15.out⟩
    · have NB : Hid (NoBoxes t.data.toList) := hnb
      clear hnb
      go_wp2_with fail
      refine (specRead t w10 (by omega)).mono ?_
      rintro e w11 ⟨hr, hb⟩
      have B11 : Hid (Below w.heap.size w w11) := B10.out.trans (hb.mono B10.out.size)
      clear hb
      obtain ⟨v11, rfl⟩ : ∃ v, e = .returned (.tuple #[v, .bool false]) := by
        rcases hr with ⟨zs, g3, cap3, h1, h2, _⟩ | ⟨_, rfl⟩
        · exact absurd h2 (NB.out zs h1)
        · exact ⟨_, rfl⟩
      clear hr
      go_wp2_with fail
      refine (implOpen w11).mono ?_
      rintro e w14 ⟨rfl, h14, hb, _⟩
      have Z14 : Hid (BoxAt w14 (w11.heap.size + 1) 0 zero4) := zeros_at h14
      have B14 : Hid (Below w.heap.size w w14) := B11.out.trans (hb.mono B11.out.size)
      clear hb h14
      go_wp2_with fail
      refine (okN _ 4 4 zero4 w14 rfl (.inr ⟨_, _, rfl, Z14.out⟩) (by omega)).mono ?_
      rintro e w15 ⟨rfl, hb⟩
      rw [ok0.out]
      have B15 : Hid (Below w.heap.size w w15) := B14.out.trans (hb.mono B14.out.size)
      clear hb
      go_wp2_with fail
      go_ret
      exact ⟨rfl, B15.out⟩
  | false =>
    go_wp2_with fail
    refine (implBad s w2 (by omega) (HE.out.keep S2.out.b) (by rw [HS.out]; exact no_other xs HOK.out)).mono ?_
    rintro e w3 ⟨rfl, hb⟩
    have S3 : Hid (One w o1 xs w3) := S2.out.step hb
    clear hb
    go_wp2_with fail
    refine (specTextN _ n 4 xs w3 HN.out s HS.out (.inr ⟨_, _, rfl, S3.out.x⟩) n4 SX.out).mono ?_
    rintro e w4 ⟨rfl, hb⟩
    have S4 : Hid (One w o1 xs w4) := S3.out.step hb
    clear hb
    go_wp2_with fail
    refine (okN _ n 4 xs w4 HN.out (.inr ⟨_, _, rfl, S4.out.x⟩) n4).mono ?_
    rintro e w5 ⟨rfl, hb⟩
    rw [HOK.out]
    have S5 : Hid (One w o1 xs w5) := S4.out.step hb
    clear hb
    go_wp2_with fail
    refine (specOkN _ n 4 xs w5 HN.out (.inr ⟨_, _, rfl, S5.out.x⟩) n4).mono ?_
    rintro e w6 ⟨rfl, rfl⟩
    rw [HOK.out]
    go_wp2_with fail
    refine (specOkN _ n 4 xs w6 HN.out (.inr ⟨_, _, rfl, S5.out.x⟩) n4).mono ?_
    rintro e w8 ⟨rfl, rfl⟩
    rw [HOK.out]
    have B8 : Hid (Below w.heap.size w w8) := S5.out.b
    go_wp2_with fail
    refine (drawBoxRead a2 n2 c2 w8 (H2.out.below2 B8.out) hc2 M2.out).mono ?_
    rintro e w9 ⟨⟨t, rfl, ht⟩, hb⟩
    have B9 : Hid (Below w.heap.size w w9) := B8.out.trans (hb.mono B8.out.size)
    clear hb
    go_wp2_with fail
    refine (implRead t w9 (by omega) (HE.out.keep B9.out)).mono ?_
    rintro e w10 ⟨hr, hb⟩
    have B10 : Hid (Below w.heap.size w w10) := B9.out.trans (hb.mono B9.out.size)
    clear hb
    rcases hr with ⟨ys, g2, oky, hty, hg2, rfl, haty, _⟩ | ⟨hnb, rfl⟩
    · have OKY : Hid (boxOk ys = true) := oky
      have L4 : Hid (ys.length = 4) := ((boxOk_iff ys).1 oky).1
      have WY : Hid (Wf ys) := ok_wf oky
      have TY : Hid (t.data.toList = textOf ys) := hty.symm
      have Y10 : Hid (BoxAt w10 g2 0 ys) := haty
      clear oky hty haty
      go_wp2_with fail
      refine (specRead t w10 (by omega)).mono ?_
      rintro e w11 ⟨hr, hb⟩
      have B11 : Hid (Below w.heap.size w w11) := B10.out.trans (hb.mono B10.out.size)
      have Y11 : Hid (BoxAt w11 g2 0 ys) := Y10.out.below hb
      clear hb
      obtain ⟨v11, rfl⟩ : ∃ v, e = .returned (.tuple #[v, .bool true]) := by
        rcases hr with ⟨zs, g3, cap3, _, _, _, rfl, _⟩ | ⟨hn, _⟩
        · exact ⟨_, rfl⟩
        · exact absurd TY.out.symm (hn ys OKY.out)
      clear hr
      go_wp2_with fail
      refine (textN _ 4 4 ys w11 L4.out t TY.out (.inr ⟨_, _, rfl, Y11.out⟩) (by omega) WY.out (HE.out.keep B11.out).tab).mono ?_
      rintro e w12 ⟨rfl, hb⟩
      have B12 : Hid (Below w.heap.size w w12) := B11.out.trans (hb.mono B11.out.size)
      have Y12 : Hid (BoxAt w12 g2 0 ys) := Y11.out.below hb
      clear hb
      go_wp2_with fail
      refine (okN _ 4 4 ys w12 L4.out (.inr ⟨_, _, rfl, Y12.out⟩) (by omega)).mono ?_
      rintro e w13 ⟨rfl, hb⟩
      rw [OKY.out]
      have B13 : Hid (Below w.heap.size w w13) := B12.out.trans (hb.mono B12.out.size)
      clear hb
      go_wp2_with fail
      refine (implOpen w13).mono ?_
      rintro e w14 ⟨rfl, h14, hb, _⟩
      have Z14 : Hid (BoxAt w14 (w13.heap.size + 1) 0 zero4) := zeros_at h14
      have B14 : Hid (Below w.heap.size w w14) := B13.out.trans (hb.mono B13.out.size)
      clear hb h14
      go_wp2_with fail
      refine (okN _ 4 4 zero4 w14 rfl (.inr ⟨_, _, rfl, Z14.out⟩) (by omega)).mono ?_
      rintro e w15 ⟨rfl, hb⟩
      rw [ok0.out]
      have B15 : Hid (Below w.heap.size w w15) := B14.out.trans (hb.mono B14.out.size)
      clear hb
      go_wp2_with fail
      go_ret
      exact ⟨rfl, B15.out⟩
    · have NB : Hid (NoBoxes t.data.toList) := hnb
      clear hnb
      go_wp2_with fail
      refine (specRead t w10 (by omega)).mono ?_
      rintro e w11 ⟨hr, hb⟩
      have B11 : Hid (Below w.heap.size w w11) := B10.out.trans (hb.mono B10.out.size)
      clear hb
      obtain ⟨v11, rfl⟩ : ∃ v, e = .returned (.tuple #[v, .bool false]) := by
        rcases hr with ⟨zs, g3, cap3, h1, h2, _⟩ | ⟨_, rfl⟩
        · exact absurd h2 (NB.out zs h1)
        · exact ⟨_, rfl⟩
      clear hr
      go_wp2_with fail
      refine (implOpen w11).mono ?_
      rintro e w14 ⟨rfl, h14, hb, _⟩
      have Z14 : Hid (BoxAt w14 (w11.heap.size + 1) 0 zero4) := zeros_at h14
      have B14 : Hid (Below w.heap.size w w14) := B11.out.trans (hb.mono B11.out.size)
      clear hb h14
      go_wp2_with fail
      refine (okN _ 4 4 zero4 w14 rfl (.inr ⟨_, _, rfl, Z14.out⟩) (by omega)).mono ?_
      rintro e w15 ⟨rfl, hb⟩
      rw [ok0.out]
      have B15 : Hid (Below w.heap.size w w15) := B14.out.trans (hb.mono B14.out.size)
      clear hb
      go_wp2_with fail
      go_ret
      exact ⟨rfl, B15.out⟩
end Go.Proofs.YtipbabkbmiaalaaDoor.Own
