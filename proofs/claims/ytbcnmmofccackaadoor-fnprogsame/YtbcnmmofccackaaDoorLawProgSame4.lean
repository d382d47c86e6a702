/-
  Own text: laws.FnProgSame.
-/
import Derived.Test.YtbcnmmofccackaaDoorDrawSame4
import Derived.Test.YtbcnmmofccackaaDoorProgSameMath
import Derived.Test.YtbcnmmofccackaaDoorProgSame2
import Derived.Test.YtbcnmmofccackaaDoorProgOkI
import Derived.Test.YtbcnmmofccackaaDoorProgOkS
import Derived.Test.YtbcnmmofccackaaDoorGatherP
import Derived.Test.YtbcnmmofccackaaDoorProgTextI
import Derived.Test.YtbcnmmofccackaaDoorRead2Math
import Derived.Test.YtbcnmmofccackaaDoorWf4
namespace Go.Proofs.YtbcnmmofccackaaDoor.Own
open Go.RowKit
set_option linter.unusedVariables false
set_option linter.unusedSimpArgs false

theorem Sm4.wf {xs : List Q4} (h : Sm4 xs) : Wf4 xs := fun k hk => by
  obtain ⟨h1, h2, h3, h4⟩ := h k hk
  exact ⟨⟨by omega, by omega⟩, ⟨by omega, by omega⟩, ⟨by omega, by omega⟩, ⟨by omega, by omega⟩⟩

theorem row_ints {w : World} {B e : Nat} {v : Value} {ys : List Int} (h : w.ownsRow B e 1 v ys.length (ys.map (Value.int .i64))) : ∃ a cap, v = .slice a ys.length cap ∧ SlI w a ys := by
  obtain ⟨h1, h2⟩ := h
  rcases h2 with ⟨hv, h0⟩ | ⟨g, cap, cur, hv, hg, hh, hmc, hml, hsz, htk⟩
  · exact ⟨none, 0, by rw [hv, h0], .inl (List.eq_nil_of_length_eq_zero h0)⟩
  · refine ⟨some ⟨g, 0, none⟩, cap, hv, .inr ⟨g, 0, rfl, (Array.getElem?_eq_some_iff.1 hh).1, fun i hi => ?_⟩⟩
    have e : (ys.map (Value.int .i64))[i]? = some (.int .i64 (ys.getD i 0)) := by simp [List.getD, hi]
    rw [← htk, List.getElem?_take_of_lt (by omega)] at e
    rw [cell_heap hh, Nat.zero_add]
    simpa using e

theorem putsInts (a : Option Addr) (c : Nat) (xs : List Q4) (hlen : xs.length ≤ 2 ^ 40) (w : World) (hS : Sl4 w a xs) :
    Calls Tryd.prog 8 #[.slice a xs.length c] w fun e w' => (∃ ad cap, e = .returned (.slice ad (boxesTo putsQ xs 4).length cap) ∧ SlI w' ad (boxesTo putsQ xs 4)) ∧ Below w.heap.size w w' := by
  refine (implProgPuts a c xs hlen w hS).mono ?_
  rintro e w' ⟨⟨v, rfl, ho⟩, hb⟩
  obtain ⟨ad, cap, rfl, hs⟩ := row_ints ho
  exact ⟨⟨ad, cap, rfl, hs⟩, hb⟩

/-- What is asked of three drawn programs, and of the first and the last behind one another. -/
structure Three (w : World) (g1 c1 : Nat) (xs : List Q4) (g2 c2 : Nat) (ys : List Q4) (g3 c3 : Nat) (zs : List Q4) : Prop where
  p1 : Prog4 w g1 c1 xs
  p2 : Prog4 w g2 c2 ys
  p3 : Prog4 w g3 c3 zs
theorem Three.below {w w' : World} {g1 c1 g2 c2 g3 c3 : Nat} {xs ys zs : List Q4} (h : Three w g1 c1 xs g2 c2 ys g3 c3 zs) (hb : Below w.heap.size w w') : Three w' g1 c1 xs g2 c2 ys g3 c3 zs :=
  ⟨⟨h.p1.1.below hb, h.p1.2⟩, ⟨h.p2.1.below hb, h.p2.2⟩, ⟨h.p3.1.below hb, h.p3.2⟩⟩
theorem Prog4.sl {w : World} {g c : Nat} {xs : List Q4} (h : Prog4 w g c xs) : Sl4 w (some ⟨g, 0, none⟩) xs := .inr ⟨g, 0, rfl, h.1⟩

theorem bytes_ext {s t : ByteArray} (h : s.toList = t.toList) : s = t := by
  rw [ByteArray.toList_eq, ByteArray.toList_eq] at h
  obtain ⟨⟨x⟩⟩ := s
  obtain ⟨⟨y⟩⟩ := t
  have : x = y := h
  rw [this]

theorem toList_same (s t : ByteArray) : (s.toList == t.toList) = decide (s = t) := by
  by_cases h : s = t
  · subst h; simp
  · rw [beq_eq_false_iff_ne.2 (fun e => h (bytes_ext e)), decide_eq_false h]

theorem text_sameQ {xs ys : List Q4} (hx : progOk xs = true) (hy : progOk ys = true) : ((str (progTo xs xs.length)).data.toList == (str (progTo ys ys.length)).data.toList) = (xs == ys) := by
  rw [str_list, str_list, progTo_all, progTo_all, Bool.eq_iff_iff]
  simp only [beq_iff_eq]
  exact ⟨fun h => progText_inj hx hy h, fun h => by rw [h]⟩

set_option maxRecDepth 100000 in
set_option maxHeartbeats 8000000 in
theorem lawProgSame4 (a : Option Addr) (n c : Nat) (a' : Option Addr) (n' c' : Nat) (w : World) (ht : Tab w) (h : Bytes w w.heap.size a n) (hc : n ≤ c) (hm : c ≤ maxLen) (h' : Bytes w w.heap.size a' n') (hc' : n' ≤ c') (hm' : c' ≤ maxLen) :
    Calls Tryd.prog 3 #[.slice a n c, .slice a' n' c'] w fun e w' => e = .returned (.bool true) ∧ Below w.heap.size w w' := by
  have HT : Hid (Tab w) := ht
  have HB : Hid (Bytes w w.heap.size a n) := h
  have HB' : Hid (Bytes w w.heap.size a' n') := h'
  have HM : Hid (c ≤ maxLen) := hm
  have HM' : Hid (c' ≤ maxLen) := hm'
  clear h h' ht
  unfold maxLen at hm hm'
  by_cases hn : n ≤ 1048576
  · have hd : decide ((1048576 : Int) < (n : Int)) = false := by simp; omega
    by_cases hn' : n' ≤ 1048576
    · have hd' : decide ((1048576 : Int) < (n' : Int)) = false := by simp; omega
      go_enter Tryd.func3, Tryd.ntmps3
      go_wp2_with fail
      refine (drawProgSame a n c w HB.out hc HM.out).mono ?_
      rintro e w1 ⟨g1, c1, xs, g2, c2, ys, rfl, p1, p2, b1⟩
      have P1 : Hid (Prog4 w1 g1 c1 xs) := p1
      have P2 : Hid (Prog4 w1 g2 c2 ys) := p2
      have B1 : Hid (Below w.heap.size w w1) := b1
      have l1 := p1.2.2.1
      have l2 := p2.2.2.1
      clear p1 p2 b1
      go_wp2_with fail
      refine (drawProgLoads a' n' c' w1 (HB'.out.below B1.out) hc' HM'.out).mono ?_
      rintro e w2 ⟨g3, c3, zs, rfl, p3, b2⟩
      have TH : Hid (Three w2 g1 c1 xs g2 c2 ys g3 c3 zs) := ⟨⟨P1.out.1.below b2, P1.out.2⟩, ⟨P2.out.1.below b2, P2.out.2⟩, p3⟩
      have B2 : Hid (Below w.heap.size w w2) := B1.out.trans (b2.mono B1.out.size)
      have l3 := p3.2.2.1
      clear p3 b2 P1 P2
      have TB : Hid (∀ w', Below w2.heap.size w2 w' → Three w' g1 c1 xs g2 c2 ys g3 c3 zs ∧ Tab w') := fun w' hb => ⟨TH.out.below hb, tab_below HT.out HT.out (B2.out.trans (hb.mono B2.out.size)) (Nat.le_refl _)⟩
      go_wp2_with fail
      refine (implProgSame _ _ c1 c2 xs ys w2 TH.out.p1.sl TH.out.p2.sl (by omega) (by omega)).mono ?_
      rintro e w3 ⟨rfl, b3⟩
      have K3 : Hid (Below w2.heap.size w2 w3) := b3
      clear b3
      go_wp2_with fail
      refine (specProgSame _ _ c1 c2 xs ys w3 (TB.out w3 K3.out).1.p1.sl (TB.out w3 K3.out).1.p2.sl (by omega) (by omega)).mono ?_
      rintro e w4 ⟨rfl, b4⟩
      have K4 : Hid (Below w2.heap.size w2 w4) := K3.out.trans (b4.mono K3.out.size)
      clear b4
      have C4 := implProgSame (some ⟨g1, 0, none⟩) (some ⟨g3, 0, none⟩) c1 c3 xs zs w4 (TB.out w4 K4.out).1.p1.sl (TB.out w4 K4.out).1.p3.sl (by omega) (by omega)
      have C4' : Hid _ := C4
      clear C4
      generalize hq1 : (xs == ys) = q1
      have Q1 : Hid ((xs == ys) = q1) := hq1
      have nq1 : (q1 != q1) = false := by cases q1 <;> rfl
      clear hq1
      go_wp2_with fail
      refine Calls.mono C4'.out ?_
      rintro e w5 ⟨rfl, b5⟩
      have K5 : Hid (Below w2.heap.size w2 w5) := K4.out.trans (b5.mono K4.out.size)
      clear b5
      go_wp2_with fail
      refine (implProgSame _ _ c3 c1 zs xs w5 (TB.out w5 K5.out).1.p3.sl (TB.out w5 K5.out).1.p1.sl (by omega) (by omega)).mono ?_
      rintro e w6 ⟨rfl, b6⟩
      have K6 : Hid (Below w2.heap.size w2 w6) := K5.out.trans (b6.mono K5.out.size)
      clear b6
      rw [← beq_comm4 xs zs]
      generalize hq2 : (xs == zs) = q2
      have Q2 : Hid ((xs == zs) = q2) := hq2
      have nq2 : (q2 != q2) = false := by cases q2 <;> rfl
      clear hq2
      obtain ⟨i0, hi, hz0, hz1, hz2⟩ := info_parts infoInsD
      have I0 : Hid (Tryd.prog.info? 37 = some i0 ∧ i0.zero = some (.agg #[.int .i64 0, .int .i64 0, .int .i64 0, .int .i64 0]) ∧ i0.size = 4 ∧ i0.bytes = 32) := ⟨hi, hz0, hz1, hz2⟩
      clear hi hz0 hz1 hz2
      have A6 : Hid (At4 w6 g1 0 xs) := (TB.out w6 K6.out).1.p1.1
      have M0 : Hid (0 + xs.length ≤ maxLen) := by show _ ≤ _; unfold maxLen; omega
      have M1 : Hid (xs.length + zs.length ≤ maxLen) := by show _ ≤ _; unfold maxLen; omega
      have M2 : Hid ((0 + xs.length) * 32 ≤ 140737488355328) := by show _ ≤ _; omega
      have M3 : Hid ((xs.length + zs.length) * 32 ≤ 140737488355328) := by show _ ≤ _; omega
      go_wp2_with (at_builtin; refine wpList_append_own _ rfl (.tmp 49) (.tmp 50) 23 rfl w6.heap.size 37 i0 (.agg #[.int .i64 0, .int .i64 0, .int .i64 0, .int .i64 0]) 4 32 Tryd.underlying23 I0.out.1 I0.out.2.1 I0.out.2.2.1 I0.out.2.2.2 rfl (by decide) (.slice (some ⟨w6.heap.size, 0, none⟩) 0 0) 0 [] rfl (own_emptyQ w6 w6.heap.size rfl) ⟨g1, 0, none⟩ xs.length c1 (flat4 xs) rfl (flat4_length xs) (flat4_atS (A6.out.below (below_new _ _))) (flat4_one _) M0.out M2.out (by rw [size_new]; omega) ?_)
      intro v1 w7 hown hgr _
      have O7 : Hid (w7.ownsRow w6.heap.size 37 4 v1 xs.length (flat4 xs)) := by
        show w7.ownsRow _ _ _ _ _ _
        simpa using hown
      have B7 : Hid (Below w6.heap.size w6 w7) := Below.grown (below_new _ _) hgr (by rw [size_new]; omega) (fun k hk => by simp only [Value.ownBlock] at hk; injection hk with hk; omega)
      have K7 : Hid (Below w2.heap.size w2 w7) := K6.out.trans (B7.out.mono K6.out.size)
      clear hown hgr
      have A7 : Hid (At4 w7 g3 0 zs) := (TB.out w7 K7.out).1.p3.1
      have S7 : Hid (w6.heap.size ≤ w7.heap.size) := B7.out.size
      go_wp2_with (at_builtin; refine wpList_append_own _ rfl (.tmp 51) (.tmp 52) 23 rfl w6.heap.size 37 i0 (.agg #[.int .i64 0, .int .i64 0, .int .i64 0, .int .i64 0]) 4 32 Tryd.underlying23 I0.out.1 I0.out.2.1 I0.out.2.2.1 I0.out.2.2.2 rfl (by decide) v1 xs.length (flat4 xs) rfl O7.out ⟨g3, 0, none⟩ zs.length c3 (flat4 zs) rfl (flat4_length zs) (flat4_atS A7.out) (flat4_one _) M1.out M3.out S7.out ?_)
      intro v2 w8 hown hgr _
      have O8 : OwnQ w8 w6.heap.size v2 (xs ++ zs) := by
        unfold OwnQ
        rw [List.length_append, show flat4 (xs ++ zs) = flat4 xs ++ flat4 zs by simp [flat4]]
        exact hown
      have B8 : Hid (Below w6.heap.size w6 w8) := Below.grown B7.out hgr S7.out (fun k hk => (O7.out.lt k hk).1)
      have K8 : Hid (Below w2.heap.size w2 w8) := K6.out.trans (B8.out.mono K6.out.size)
      obtain ⟨ab, capb, rfl, slb, hcb⟩ := O8.open
      have SB : Hid (∀ w', Below w8.heap.size w8 w' → Sl4 w' ab (xs ++ zs)) := fun w' hb => slb.below hb
      have LB : Hid ((xs ++ zs).length = xs.length + zs.length) := List.length_append
      have lb : (xs ++ zs).length ≤ 24 := by rw [LB.out]; omega
      have CN : Hid (Calls Tryd.prog 8 #[.slice ab (xs.length + zs.length) capb] w8 fun e w' => (∃ ad cap, e = .returned (.slice ad (boxesTo putsQ (xs ++ zs) 4).length cap) ∧ SlI w' ad (boxesTo putsQ (xs ++ zs) 4)) ∧ Below w8.heap.size w8 w') := by
        rw [← LB.out]; exact putsInts ab capb (xs ++ zs) (by omega) w8 (SB.out w8 (Below.refl _ _))
      clear hown hgr O8 slb hcb
      go_wp2_with fail
      refine Calls.mono CN.out ?_
      rintro e w9 ⟨⟨adn, capn, rfl, sln⟩, b9⟩
      have N9 : Hid (SlI w9 adn (boxesTo putsQ (xs ++ zs) 4)) := sln
      have K9 : Hid (Below w8.heap.size w8 w9) := b9
      have ln := boxesTo_len putsQ (xs ++ zs) 4
      clear sln b9
      generalize hN : boxesTo putsQ (xs ++ zs) 4 = N at N9 ln
      generalize hX : boxesTo putsQ xs 4 = X
      generalize hY : boxesTo putsQ zs 4 = Y
      have HN : Hid (∀ i : Nat, i < 4 → (N.any fun x => x == (i : Int)) = ((X.any fun x => x == (i : Int)) || (Y.any fun x => x == (i : Int)))) := by
        intro i hi
        rw [← hN, ← hX, ← hY]; exact boxes_both putsQ xs zs i hi
      have lx : X.length ≤ 4 := by rw [← hX]; exact boxesTo_len _ _ _
      have ly : Y.length ≤ 4 := by rw [← hY]; exact boxesTo_len _ _ _
      have CX : Hid (∀ w', Below w8.heap.size w8 w' → Calls Tryd.prog 8 #[.slice (some ⟨g1, 0, none⟩) xs.length c1] w' fun e w'' => (∃ ad cap, e = .returned (.slice ad X.length cap) ∧ SlI w'' ad X) ∧ Below w'.heap.size w' w'') := fun w' hb => by
        rw [← hX]; exact putsInts _ c1 xs (by omega) w' (TB.out w' (K8.out.trans (hb.mono K8.out.size))).1.p1.sl
      have CY : Hid (∀ w', Below w8.heap.size w8 w' → Calls Tryd.prog 8 #[.slice (some ⟨g3, 0, none⟩) zs.length c3] w' fun e w'' => (∃ ad cap, e = .returned (.slice ad Y.length cap) ∧ SlI w'' ad Y) ∧ Below w'.heap.size w' w'') := fun w' hb => by
        rw [← hY]; exact putsInts _ c3 zs (by omega) w' (TB.out w' (K8.out.trans (hb.mono K8.out.size))).1.p3.sl
      clear hN hX hY
      go_wp2_with fail
      go_loopw [10] (fun q wr => ∃ i : Nat, i ≤ 4 ∧ q = .int .i64 i ∧ Below w9.heap.size w9 wr) (fun q _ => 4 - (intOf q).toNat)
      case atStart => exact ⟨0, by omega, rfl, Below.refl _ _⟩
      case round =>
        obtain ⟨i, hi, rfl, hB⟩ := hrel
        have KR : Hid (Below w9.heap.size w9 wr) := hB
        have KR8 : Hid (Below w8.heap.size w8 wr) := K9.out.trans (hB.mono K9.out.size)
        have NR : Hid (SlI wr adn N) := N9.out.below hB
        clear hB
        by_cases hi4 : i < 4
        · go_wp2_with fail
          go_loop [11, 12] (fun h q => ∃ j : Nat, j ≤ (N).length ∧ q = .int .i64 j ∧ h = .bool (false || ((N).take j).any fun x => x == (i : Int))) (fun _ q => (N).length - (intOf q).toNat)
          case atStart => exact ⟨0, Nat.zero_le _, rfl, by simp⟩
          case round =>
            obtain ⟨j, hj, rfl, rfl⟩ := hrel
            by_cases hlt : j < (N).length
            · rcases NR.out with h0 | ⟨bn, on, rfl, hn1⟩
              · rw [h0] at hlt; simp at hlt
              have cn := hn1.2 j hlt
              have HS : Hid (((N).take (j + 1)).any (fun x => x == (i : Int)) = (((N).take j).any (fun x => x == (i : Int)) || (N).getD j 0 == (i : Int))) := anyI_succ _ hlt
              obtain ⟨z, hz⟩ : ∃ z, z = (N).getD j 0 := ⟨_, rfl⟩
              rw [← hz] at cn HS
              clear hz hn1
              cases hb : (false || ((N).take j).any fun x => x == (i : Int)) with
              | true =>
                have NX : Hid ((false || ((N).take (j + 1)).any fun x => x == (i : Int)) = true) := by show _ = _; rw [HS.out, ← Bool.or_assoc, hb]; rfl
                have hji : (j : Int) < (((N).length : Nat) : Int) := by omega
                clear hb
                go_wp2
                go_round
                case rel => exact ⟨j + 1, by omega, by go_num, by rw [NX.out]⟩
                case measure => simp [intOf]; omega
              | false =>
                have NX : Hid ((false || ((N).take (j + 1)).any fun x => x == (i : Int)) = (z == (i : Int))) := by show _ = _; rw [HS.out, ← Bool.or_assoc, hb]; rfl
                have hji : (j : Int) < (((N).length : Nat) : Int) := by omega
                clear hb
                go_wp2
                go_round
                case rel => exact ⟨j + 1, by omega, by go_num, by rw [NX.out]⟩
                case measure => simp [intOf]; omega
            · have hjl : j = (N).length := by omega
              subst hjl
              have T1 : Hid ((false || ((N).take (N).length).any fun x => x == (i : Int)) = (false || (N).any fun x => x == (i : Int))) := by show _ = _; rw [List.take_length]
              rw [T1.out]
              simp only [Bool.false_or]
              go_wp2_with fail
              refine (CX.out wr KR8.out).mono ?_
              rintro e w10 ⟨⟨adx, capx, rfl, slx⟩, b10⟩
              have X10 : Hid (SlI w10 adx X) := slx
              have R10 : Hid (Below w9.heap.size w9 w10) := KR.out.trans (b10.mono KR.out.size)
              have S10 : Hid (Below w8.heap.size w8 w10) := KR8.out.trans (b10.mono KR8.out.size)
              clear slx b10
              go_wp2_with fail
              refine (CY.out w10 S10.out).mono ?_
              rintro e w11 ⟨⟨ady, capy, rfl, sly⟩, b11⟩
              have Y11 : Hid (SlI w11 ady Y) := sly
              have X11 : Hid (SlI w11 adx X) := X10.out.below b11
              have R11 : Hid (Below w9.heap.size w9 w11) := R10.out.trans (b11.mono R10.out.size)
              clear sly b11
              go_wp2_with fail
              go_loop [13, 16] (fun h q => ∃ j : Nat, j ≤ (X).length ∧ q = .int .i64 j ∧ h = .bool (false || ((X).take j).any fun x => x == (i : Int))) (fun _ q => (X).length - (intOf q).toNat)
              case atStart => exact ⟨0, Nat.zero_le _, rfl, by simp⟩
              case round =>
                obtain ⟨j, hj, rfl, rfl⟩ := hrel
                by_cases hlt : j < (X).length
                · rcases X11.out with h0 | ⟨bn, on, rfl, hn1⟩
                  · rw [h0] at hlt; simp at hlt
                  have cn := hn1.2 j hlt
                  have HS : Hid (((X).take (j + 1)).any (fun x => x == (i : Int)) = (((X).take j).any (fun x => x == (i : Int)) || (X).getD j 0 == (i : Int))) := anyI_succ _ hlt
                  obtain ⟨z, hz⟩ : ∃ z, z = (X).getD j 0 := ⟨_, rfl⟩
                  rw [← hz] at cn HS
                  clear hz hn1
                  cases hb : (false || ((X).take j).any fun x => x == (i : Int)) with
                  | true =>
                    have NX : Hid ((false || ((X).take (j + 1)).any fun x => x == (i : Int)) = true) := by show _ = _; rw [HS.out, ← Bool.or_assoc, hb]; rfl
                    have hji : (j : Int) < (((X).length : Nat) : Int) := by omega
                    clear hb
                    go_wp2
                    go_round
                    case rel => exact ⟨j + 1, by omega, by go_num, by rw [NX.out]⟩
                    case measure => simp [intOf]; omega
                  | false =>
                    have NX : Hid ((false || ((X).take (j + 1)).any fun x => x == (i : Int)) = (z == (i : Int))) := by show _ = _; rw [HS.out, ← Bool.or_assoc, hb]; rfl
                    have hji : (j : Int) < (((X).length : Nat) : Int) := by omega
                    clear hb
                    go_wp2
                    go_round
                    case rel => exact ⟨j + 1, by omega, by go_num, by rw [NX.out]⟩
                    case measure => simp [intOf]; omega
                · have hjl : j = (X).length := by omega
                  subst hjl
                  have T2 : Hid ((false || ((X).take (X).length).any fun x => x == (i : Int)) = (false || (X).any fun x => x == (i : Int))) := by show _ = _; rw [List.take_length]
                  rw [T2.out]
                  simp only [Bool.false_or]
                  go_wp2_with fail
                  go_loop [13, 17] (fun h q => ∃ j : Nat, j ≤ (Y).length ∧ q = .int .i64 j ∧ h = .bool ((X.any fun x => x == (i : Int)) || ((Y).take j).any fun x => x == (i : Int))) (fun _ q => (Y).length - (intOf q).toNat)
                  case atStart => exact ⟨0, Nat.zero_le _, rfl, by simp⟩
                  case round =>
                    obtain ⟨j, hj, rfl, rfl⟩ := hrel
                    by_cases hlt : j < (Y).length
                    · rcases Y11.out with h0 | ⟨bn, on, rfl, hn1⟩
                      · rw [h0] at hlt; simp at hlt
                      have cn := hn1.2 j hlt
                      have HS : Hid (((Y).take (j + 1)).any (fun x => x == (i : Int)) = (((Y).take j).any (fun x => x == (i : Int)) || (Y).getD j 0 == (i : Int))) := anyI_succ _ hlt
                      obtain ⟨z, hz⟩ : ∃ z, z = (Y).getD j 0 := ⟨_, rfl⟩
                      rw [← hz] at cn HS
                      clear hz hn1
                      cases hb : ((X.any fun x => x == (i : Int)) || ((Y).take j).any fun x => x == (i : Int)) with
                      | true =>
                        have NX : Hid (((X.any fun x => x == (i : Int)) || ((Y).take (j + 1)).any fun x => x == (i : Int)) = true) := by show _ = _; rw [HS.out, ← Bool.or_assoc, hb]; rfl
                        have hji : (j : Int) < (((Y).length : Nat) : Int) := by omega
                        clear hb
                        go_wp2
                        go_round
                        case rel => exact ⟨j + 1, by omega, by go_num, by rw [NX.out]⟩
                        case measure => simp [intOf]; omega
                      | false =>
                        have NX : Hid (((X.any fun x => x == (i : Int)) || ((Y).take (j + 1)).any fun x => x == (i : Int)) = (z == (i : Int))) := by show _ = _; rw [HS.out, ← Bool.or_assoc, hb]; rfl
                        have hji : (j : Int) < (((Y).length : Nat) : Int) := by omega
                        clear hb
                        go_wp2
                        go_round
                        case rel => exact ⟨j + 1, by omega, by go_num, by rw [NX.out]⟩
                        case measure => simp [intOf]; omega
                    · have hjl : j = (Y).length := by omega
                      subst hjl
                      have T3 : Hid (((X.any fun x => x == (i : Int)) || ((Y).take (Y).length).any fun x => x == (i : Int)) = ((X.any fun x => x == (i : Int)) || (Y).any fun x => x == (i : Int))) := by show _ = _; rw [List.take_length]
                      rw [T3.out]
                      rw [← HN.out i hi4]
                      generalize (N.any fun x => x == (i : Int)) = bb
                      have nbb : (bb != bb) = false := by cases bb <;> rfl
                      go_wp2_with fail
                      go_roundw
                      case rel => exact ⟨i + 1, by omega, by go_num, R11.out⟩
                      case measure => simp [intOf]; omega
        · have TR : Hid (∀ w', Below w8.heap.size w8 w' → Three w' g1 c1 xs g2 c2 ys g3 c3 zs ∧ Tab w') := fun w' hb => TB.out w' (K8.out.trans (hb.mono K8.out.size))
          have W8 : Hid (∀ w', Below w8.heap.size w8 w' → Below w.heap.size w w') := fun w' hb => B2.out.trans ((K8.out.trans (hb.mono K8.out.size)).mono B2.out.size)
          have PO : Hid (∀ w', Below w8.heap.size w8 w' → (Calls Tryd.prog 9 #[.slice (some ⟨g1, 0, none⟩) xs.length c1] w' fun e w'' => e = .returned (.bool (progOk xs)) ∧ Below w'.heap.size w' w'') ∧ (Calls Tryd.prog 9 #[.slice (some ⟨g2, 0, none⟩) ys.length c2] w' fun e w'' => e = .returned (.bool (progOk ys)) ∧ Below w'.heap.size w' w'') ∧ (Calls Tryd.prog 9 #[.slice (some ⟨g3, 0, none⟩) zs.length c3] w' fun e w'' => e = .returned (.bool (progOk zs)) ∧ Below w'.heap.size w' w'') ∧ (Calls Tryd.prog 10 #[.slice (some ⟨g1, 0, none⟩) xs.length c1] w' fun e w'' => e = .returned (.bool (progOk xs)) ∧ Below w'.heap.size w' w'')) := fun w' hb =>
            ⟨specProgOk _ c1 xs w' (TR.out w' hb).1.p1.sl (by omega), specProgOk _ c2 ys w' (TR.out w' hb).1.p2.sl (by omega), specProgOk _ c3 zs w' (TR.out w' hb).1.p3.sl (by omega), implProgOk _ c1 xs w' (TR.out w' hb).1.p1.sl (by omega)⟩
          have BO : Hid (∀ w', Below w8.heap.size w8 w' → Calls Tryd.prog 10 #[.slice ab (xs.length + zs.length) capb] w' fun e w'' => e = .returned (.bool (progOk (xs ++ zs))) ∧ Below w'.heap.size w' w'') := fun w' hb => by
            rw [← LB.out]; exact implProgOk ab capb (xs ++ zs) w' (SB.out w' hb) (by omega)
          have PS : Hid (∀ w', Below w8.heap.size w8 w' → (Calls Tryd.prog 6 #[.slice (some ⟨g1, 0, none⟩) xs.length c1, .slice (some ⟨g2, 0, none⟩) ys.length c2] w' fun e w'' => e = .returned (.bool q1) ∧ Below w'.heap.size w' w'') ∧ (Calls Tryd.prog 6 #[.slice (some ⟨g1, 0, none⟩) xs.length c1, .slice (some ⟨g3, 0, none⟩) zs.length c3] w' fun e w'' => e = .returned (.bool q2) ∧ Below w'.heap.size w' w'')) := fun w' hb => by
            rw [← Q1.out, ← Q2.out]
            exact ⟨implProgSame _ _ c1 c2 xs ys w' (TR.out w' hb).1.p1.sl (TR.out w' hb).1.p2.sl (by omega) (by omega), implProgSame _ _ c1 c3 xs zs w' (TR.out w' hb).1.p1.sl (TR.out w' hb).1.p3.sl (by omega) (by omega)⟩
          obtain ⟨tx, htx⟩ : ∃ s, s = str (progTo xs xs.length) := ⟨_, rfl⟩
          obtain ⟨ty, hty⟩ : ∃ s, s = str (progTo ys ys.length) := ⟨_, rfl⟩
          obtain ⟨tz, htz⟩ : ∃ s, s = str (progTo zs zs.length) := ⟨_, rfl⟩
          have PT : Hid (∀ w', Below w8.heap.size w8 w' → (Calls Tryd.prog 11 #[.slice (some ⟨g1, 0, none⟩) xs.length c1] w' fun e w'' => e = .returned (.string tx) ∧ Below w'.heap.size w' w'') ∧ (Calls Tryd.prog 11 #[.slice (some ⟨g2, 0, none⟩) ys.length c2] w' fun e w'' => e = .returned (.string ty) ∧ Below w'.heap.size w' w'') ∧ (Calls Tryd.prog 11 #[.slice (some ⟨g3, 0, none⟩) zs.length c3] w' fun e w'' => e = .returned (.string tz) ∧ Below w'.heap.size w' w'')) := fun w' hb => by
            rw [htx, hty, htz]
            have h := TR.out w' hb
            exact ⟨implProgText _ c1 xs w' h.1.p1.sl (by omega) h.1.p1.2.2.2.wf h.2, implProgText _ c2 ys w' h.1.p2.sl (by omega) h.1.p2.2.2.2.wf h.2, implProgText _ c3 zs w' h.1.p3.sl (by omega) h.1.p3.2.2.2.wf h.2⟩
          have TXY : Hid (progOk xs = true → progOk ys = true → (tx.toList == ty.toList) = q1) := by
            intro h1 h2
            rw [toList_same, htx, hty, ← Q1.out, ← text_sameQ h1 h2, Bool.eq_iff_iff]
            simp only [decide_eq_true_eq, beq_iff_eq]
            exact ⟨fun e => by rw [e], fun e => by rw [str_list, str_list] at e; rw [e]⟩
          have TXZ : Hid (progOk xs = true → progOk zs = true → (tx.toList == tz.toList) = q2) := by
            intro h1 h2
            rw [toList_same, htx, htz, ← Q2.out, ← text_sameQ h1 h2, Bool.eq_iff_iff]
            simp only [decide_eq_true_eq, beq_iff_eq]
            exact ⟨fun e => by rw [e], fun e => by rw [str_list, str_list] at e; rw [e]⟩
          have BOK : Hid (progOk xs = true → progOk zs = true → progOk (xs ++ zs) = decide (((xs.length : Int) + (zs.length : Int)) ≤ 10)) := by
            intro h1 h2
            rw [progOk_both h1 h2, Bool.eq_iff_iff]
            simp only [decide_eq_true_eq]
            rw [LB.out]
            omega
          clear htx hty htz
          generalize progOk (xs ++ zs) = rb at BO BOK
          have eq1 : (q1 == q1) = true := by cases q1 <;> rfl
          have eq2' : (q2 == q2) = true := by cases q2 <;> rfl
          have e1 : ∀ b : Bool, (b == b) = true := fun b => by cases b <;> rfl
          have E1 : Hid (∀ b : Bool, (b == b) = true) := e1
          clear e1
          generalize progOk xs = rx at PO TXY TXZ BOK
          generalize progOk ys = ry at PO TXY
          generalize progOk zs = rz at PO TXZ BOK
          cases rx with
          | false =>
            go_wp2_with fail
            refine (PO.out wr KR8.out).1.mono ?_
            rintro e w20 ⟨rfl, b20⟩
            have K20 : Hid (Below w8.heap.size w8 w20) := KR8.out.trans (b20.mono KR8.out.size)
            clear b20
            go_wp2_with fail
            refine (PO.out w20 K20.out).2.2.2.mono ?_
            rintro e w21 ⟨rfl, b21⟩
            have K21 : Hid (Below w8.heap.size w8 w21) := K20.out.trans (b21.mono K20.out.size)
            clear b21
            go_wp2_with fail
            refine (PO.out w21 K21.out).1.mono ?_
            rintro e w22 ⟨rfl, b22⟩
            have K22 : Hid (Below w8.heap.size w8 w22) := K21.out.trans (b22.mono K21.out.size)
            clear b22
            go_wp2_with fail
            go_ret
            exact ⟨rfl, W8.out _ K22.out⟩
          | true =>
            cases ry with
            | false =>
              go_wp2_with fail
              refine (PO.out wr KR8.out).1.mono ?_
              rintro e w20 ⟨rfl, b20⟩
              have K20 : Hid (Below w8.heap.size w8 w20) := KR8.out.trans (b20.mono KR8.out.size)
              clear b20
              go_wp2_with fail
              refine (PO.out w20 K20.out).2.1.mono ?_
              rintro e w19 ⟨rfl, b19⟩
              have K19 : Hid (Below w8.heap.size w8 w19) := K20.out.trans (b19.mono K20.out.size)
              clear b19
              go_wp2_with fail
              refine (PO.out w19 K19.out).2.2.2.mono ?_
              rintro e w21 ⟨rfl, b21⟩
              have K21 : Hid (Below w8.heap.size w8 w21) := K19.out.trans (b21.mono K19.out.size)
              clear b21
              go_wp2_with fail
              refine (PO.out w21 K21.out).1.mono ?_
              rintro e w22 ⟨rfl, b22⟩
              have K22 : Hid (Below w8.heap.size w8 w22) := K21.out.trans (b22.mono K21.out.size)
              clear b22
              go_wp2_with fail
              go_ret
              exact ⟨rfl, W8.out _ K22.out⟩
            | true =>
              have txy : (tx.toList == ty.toList) = q1 := TXY.out rfl rfl
              cases rz with
              | false =>
                go_wp2_with fail
                refine (PO.out wr KR8.out).1.mono ?_
                rintro e w20 ⟨rfl, b20⟩
                have K20 : Hid (Below w8.heap.size w8 w20) := KR8.out.trans (b20.mono KR8.out.size)
                clear b20
                go_wp2_with fail
                refine (PO.out w20 K20.out).2.1.mono ?_
                rintro e w19 ⟨rfl, b19⟩
                have K19 : Hid (Below w8.heap.size w8 w19) := K20.out.trans (b19.mono K20.out.size)
                clear b19
                go_wp2_with fail
                refine (PO.out w19 K19.out).2.2.1.mono ?_
                rintro e w18 ⟨rfl, b18⟩
                have K18 : Hid (Below w8.heap.size w8 w18) := K19.out.trans (b18.mono K19.out.size)
                clear b18
                go_wp2_with fail
                refine (PO.out w18 K18.out).2.2.2.mono ?_
                rintro e w21 ⟨rfl, b21⟩
                have K21 : Hid (Below w8.heap.size w8 w21) := K18.out.trans (b21.mono K18.out.size)
                clear b21
                go_wp2_with fail
                refine (PO.out w21 K21.out).1.mono ?_
                rintro e w22 ⟨rfl, b22⟩
                have K22 : Hid (Below w8.heap.size w8 w22) := K21.out.trans (b22.mono K21.out.size)
                clear b22
                go_wp2_with fail
                go_ret
                exact ⟨rfl, W8.out _ K22.out⟩
              | true =>
                have txz : (tx.toList == tz.toList) = q2 := TXZ.out rfl rfl
                have BK : Hid (rb = decide (((xs.length : Int) + (zs.length : Int)) ≤ 10)) := BOK.out rfl rfl
                go_wp2_with fail
                refine (PO.out wr KR8.out).1.mono ?_
                rintro e w20 ⟨rfl, b20⟩
                have K20 : Hid (Below w8.heap.size w8 w20) := KR8.out.trans (b20.mono KR8.out.size)
                clear b20
                go_wp2_with fail
                refine (PO.out w20 K20.out).2.1.mono ?_
                rintro e w19 ⟨rfl, b19⟩
                have K19 : Hid (Below w8.heap.size w8 w19) := K20.out.trans (b19.mono K20.out.size)
                clear b19
                go_wp2_with fail
                refine (PO.out w19 K19.out).2.2.1.mono ?_
                rintro e w18 ⟨rfl, b18⟩
                have K18 : Hid (Below w8.heap.size w8 w18) := K19.out.trans (b18.mono K19.out.size)
                clear b18
                go_wp2_with fail
                refine (PS.out w18 K18.out).1.mono ?_
                rintro e w21 ⟨rfl, b21⟩
                have K21 : Hid (Below w8.heap.size w8 w21) := K18.out.trans (b21.mono K18.out.size)
                clear b21
                go_wp2_with fail
                refine (PT.out w21 K21.out).1.mono ?_
                rintro e w22 ⟨rfl, b22⟩
                have K22 : Hid (Below w8.heap.size w8 w22) := K21.out.trans (b22.mono K21.out.size)
                clear b22
                go_wp2_with fail
                refine (PT.out w22 K22.out).2.1.mono ?_
                rintro e w23 ⟨rfl, b23⟩
                have K23 : Hid (Below w8.heap.size w8 w23) := K22.out.trans (b23.mono K22.out.size)
                clear b23
                go_wp2_with fail
                refine (PS.out w23 K23.out).2.mono ?_
                rintro e w24 ⟨rfl, b24⟩
                have K24 : Hid (Below w8.heap.size w8 w24) := K23.out.trans (b24.mono K23.out.size)
                clear b24
                go_wp2_with fail
                refine (PT.out w24 K24.out).1.mono ?_
                rintro e w25 ⟨rfl, b25⟩
                have K25 : Hid (Below w8.heap.size w8 w25) := K24.out.trans (b25.mono K24.out.size)
                clear b25
                go_wp2_with fail
                refine (PT.out w25 K25.out).2.2.mono ?_
                rintro e w26 ⟨rfl, b26⟩
                have K26 : Hid (Below w8.heap.size w8 w26) := K25.out.trans (b26.mono K25.out.size)
                clear b26
                go_wp2_with fail
                refine (BO.out w26 K26.out).mono ?_
                rintro e w27 ⟨rfl, b27⟩
                have K27 : Hid (Below w8.heap.size w8 w27) := K26.out.trans (b27.mono K26.out.size)
                clear b27
                go_wp2_with fail
                go_ret
                exact ⟨ret_bool (by rw [BK.out]; simp), W8.out _ K27.out⟩
    · go_enter Tryd.func3, Tryd.ntmps3
      go_wp2_with fail
      go_ret
      exact ⟨rfl, Below.refl _ _⟩
  · go_enter Tryd.func3, Tryd.ntmps3
    go_wp2_with fail
    go_ret
    exact ⟨rfl, Below.refl _ _⟩
end Go.Proofs.YtbcnmmofccackaaDoor.Own
