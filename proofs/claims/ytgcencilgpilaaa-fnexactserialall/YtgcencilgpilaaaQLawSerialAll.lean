/-
  Own text: laws.FnExactSerialAll.
-/
import Derived.Test.YtgcencilgpilaaaQSerAllS
import Derived.Test.YtgcencilgpilaaaQSSOps2
import Derived.Test.YtgcencilgpilaaaPk1
import Derived.Test.YtgcencilgpilaaaQEq
import Derived.Test.YtgcencilgpilaaaQMarkB
import Derived.Test.YtgcencilgpilaaaPk6
namespace Go.Proofs.Ytgcencilgpilaaa.Own
open Go.RowKit
set_option linter.unusedVariables false
set_option linter.unusedSimpArgs false

theorem OwnI.turnedL {L : List Nat} {w w' : World} {B : Nat} {v : Value} {ys : List Int} (h : OwnI w B v ys) (ht : Turned L w w') (hb : ∀ g, v.ownBlock = some g → g ∉ L) : OwnI w' B v ys := by
  obtain ⟨h1, h2⟩ := h
  refine ⟨h1, ?_⟩
  rcases h2 with h2 | ⟨g, cap, cur, hv, hg, hh, r⟩
  · exact .inl h2
  · exact .inr ⟨g, cap, cur, hv, hg, by rw [ht.block g (Array.getElem?_eq_some_iff.1 hh).1 (hb g (by rw [hv]; rfl))]; exact hh, r⟩
theorem OwnI.belowB {w w' : World} {B n : Nat} {v : Value} {ys : List Int} (h : OwnI w B v ys) (hb : Below n w w') (hn : ∀ g, v.ownBlock = some g → g < n) : OwnI w' B v ys := by
  obtain ⟨h1, h2⟩ := h
  refine ⟨h1, ?_⟩
  rcases h2 with h2 | ⟨g, cap, cur, hv, hg, hh, r⟩
  · exact .inl h2
  · exact .inr ⟨g, cap, cur, hv, hg, by rw [hb.block g (hn g (by rw [hv]; rfl))]; exact hh, r⟩
/-- v's numbers have been marked from k on. -/
def HeldK (w : World) (v : Value) (k : Int) (n : Nat) : Prop := ∃ a cap, v = .slice a n cap ∧ (n = 0 ∨ ∃ g, a = some ⟨g, 0, none⟩ ∧ IntAt w g 0 (marks1 k n))
theorem HeldK.keep {w w' : World} {n : Nat} {k : Int} {v : Value} (h : HeldK w v k n) (hb : Below w.heap.size w w') : HeldK w' v k n := by
  obtain ⟨a, cap, hv, h⟩ := h
  refine ⟨a, cap, hv, ?_⟩
  rcases h with h | ⟨g, ha, h⟩
  · exact .inl h
  · exact .inr ⟨g, ha, h.below hb⟩
theorem markOwnK (v : Value) (B : Nat) (ys : List Int) (k : Int) (w : World) (h : OwnI w B v ys) (hl : ys.length ≤ 2 ^ 40) (k0 : 0 ≤ k) (k1 : k ≤ 2 ^ 40) :
    Calls Try.prog 41 #[v, .int .i64 k] w fun e w' => e = .returned (.int .i64 (k + ys.length)) ∧ HeldK w' v k ys.length ∧ (∃ L, Turned L w w' ∧ ∀ x, x ∈ L → v.ownBlock = some x) := by
  obtain ⟨h1, h2⟩ := h
  rcases h2 with ⟨hv, h0⟩ | ⟨g, cap, cur, hv, hg, hh, hmc, hml, hsz, htk⟩
  · subst hv
    refine (markIntS0 none 0 k w).mono ?_
    rintro e w' ⟨rfl, rfl⟩
    exact ⟨by rw [h0]; simp, ⟨none, 0, by rw [h0], .inl h0⟩, [], Turned.refl _ _, by simp⟩
  · subst hv
    have hc : ∀ i, i < ys.length → ∃ v, w.cell? ⟨g, 0 + i, none⟩ = some v ∧ v.oneCell' = true := by
      intro i hi
      rw [Nat.zero_add, cell_heap hh]
      have e : (cur.toList.take (ys.length * 1))[i]? = some (.int .i64 (ys.getD i 0)) := by
        rw [htk, List.getElem?_map]; simp [List.getD, hi]
      rw [List.getElem?_take_of_lt (by omega)] at e
      exact ⟨_, by simpa using e, rfl⟩
    refine (markIntS g 0 ys.length cap k w hl k0 k1 (fun o => frozen_heap hh o) hc (Array.getElem?_eq_some_iff.1 hh).1).mono ?_
    rintro e w' ⟨rfl, hat, ho⟩
    exact ⟨rfl, ⟨_, _, rfl, .inr ⟨g, rfl, hat⟩⟩, [g], Turned.ofOnly ho (by simp), fun x hx => by simp at hx; rw [hx]; rfl⟩
theorem heldOwnK (v : Value) (n : Nat) (k : Int) (w : World) (h : HeldK w v k n) (hl : n ≤ 2 ^ 40) (k0 : 0 ≤ k) (k1 : k ≤ 2 ^ 40) :
    Calls Try.prog 43 #[v, .int .i64 k] w fun e w' => e = .returned (.int .i64 (k + n)) ∧ w' = w := by
  obtain ⟨a, cap, rfl, h⟩ := h
  rcases h with rfl | ⟨g, rfl, h⟩
  · refine (heldIntS0 a cap k w).mono ?_
    rintro e w' ⟨rfl, rfl⟩
    exact ⟨by simp, rfl⟩
  · exact heldIntS g 0 n cap k w hl k0 k1 h

theorem serialAll_len (bs : List P2) (ps : List (List Q4)) : (serialAll bs ps).1.length ≤ 4 ∧ (serialAll bs ps).2.length ≤ 100 := by
  unfold serialAll
  split
  · rename_i h
    simp only [allOk, Bool.and_eq_true, decide_eq_true_eq] at h
    exact ⟨Nat.le_of_eq (boxOk_len (runAll_ok ps h.1.1)), by rw [runAll_len]; exact h.1.2⟩
  · simp

set_option maxRecDepth 100000 in
set_option maxHeartbeats 4000000 in
theorem lawSerialAll (a : Option Addr) (c : Nat) (bs : List P2) (a' : Option Addr) (c' : Nat) (ps : List PS) (w : World) (h0 : Sl w a bs) (m0 : bs.length ≤ maxLen) (h1 : SlQ w a' ps) (m1 : ps.length ≤ maxLen) (mm : ∀ i, i < ps.length → (ps.getD i p0).2.2.length ≤ maxLen) :
    Calls Try.prog 6 #[.slice a bs.length c, .slice a' ps.length c'] w fun e w' => e = .returned (.bool true) ∧ Below w.heap.size w w' := by
  have H0 : Hid (Sl w a bs) := h0
  have H1 : Hid (SlQ w a' ps) := h1
  clear h0 h1
  by_cases hn : bs.length ≤ 1048576
  · obtain ⟨lf, hlf⟩ : ∃ l : Nat, l = 1048576 - bs.length := ⟨_, rfl⟩
    have elf : (1048576 : Int) - (bs.length : Int) = (lf : Int) := by omega
    have SZ := szInsSS a' c' ps lf w H1.out m1 mm (by omega)
    by_cases hn2 : ¬ lf < ps.length + sumL ps ps.length
    · rw [if_neg hn2] at SZ
      have l0 : bs.length ≤ 2 ^ 40 := by omega
      have l1 : ps.length ≤ 2 ^ 20 := by omega
      have LL : ∀ i, i < ps.length → (ps.getD i p0).2.2.length ≤ 2 ^ 20 := fun i hi => by have := sumL_at ps hi; omega
      have lz : ¬ ((lf : Int) - ((ps.length + sumL ps ps.length : Nat) : Int)) < 0 := by omega
      obtain ⟨xss, hxs⟩ : ∃ x, x = progsOf ps := ⟨_, rfl⟩
      have XL : xss.length = ps.length := by rw [hxs]; simp [progsOf]
      have XA : ∀ i, i < xss.length → xss.getD i [] = (ps.getD i p0).2.2 := fun i hi => by rw [hxs]; rw [XL] at hi; simp [progsOf, List.getD, hi]
      have XB : Hid (∀ i, i < xss.length → (xss.getD i []).length ≤ 2 ^ 40) := fun i hi => by rw [XA i hi]; have := LL i (by omega); omega
      have XS : Hid (∀ k, k ≤ xss.length → sumX xss k ≤ 2 ^ 30) := by
        have key : ∀ k, k ≤ xss.length → sumX xss k = sumL ps k := by
          intro k
          induction k with
          | zero => intro _; rfl
          | succ k ih => intro hk; simp only [sumX, sumL]; rw [ih (by omega), XA k (by omega)]
        intro k hk
        rw [key k hk]
        have := sumL_mono ps (show k ≤ ps.length by omega)
        omega
      have HLL : Hid (∀ i, i < ps.length → (ps.getD i p0).2.2.length ≤ 2 ^ 40) := fun i hi => by have := LL i hi; omega
      have f1 := serialAll_len bs xss
      have IR : Hid (∀ (b g : Nat) (gs : List Nat) (W : World), BoxAt W b 0 bs → CopyPS W g gs xss → Calls Try.prog 27 #[.slice (some ⟨b, 0, none⟩) bs.length bs.length, .slice (some ⟨g, 0, none⟩) ps.length ps.length] W fun e w' => SAPost (serialAll bs xss) W.heap.size e w' ∧ Below W.heap.size W w') := fun b g gs W hb hg => by
        have h := implSerialAll (some ⟨b, 0, none⟩) (some ⟨g, 0, none⟩) bs.length ps.length bs (psOf gs xss) W (.inr ⟨_, _, rfl, hb⟩) (hg.slP XB.out) (Nat.le_refl _) (by rw [psOf_len]; omega)
        rw [psOf_progs, psOf_len, XL] at h
        exact h
      have SR : Hid (∀ (b g : Nat) (gs : List Nat) (W : World), BoxAt W b 0 bs → CopyPS W g gs xss → Calls Try.prog 28 #[.slice (some ⟨b, 0, none⟩) bs.length bs.length, .slice (some ⟨g, 0, none⟩) ps.length ps.length] W fun e w' => SAPost (serialAll bs xss) W.heap.size e w' ∧ Below W.heap.size W w') := fun b g gs W hb hg => by
        have h := specSerialAll (some ⟨b, 0, none⟩) (some ⟨g, 0, none⟩) bs.length ps.length bs (psOf gs xss) W (.inr ⟨_, _, rfl, hb⟩) (hg.slP XB.out) l0 (by rw [psOf_len]; omega)
        rw [psOf_progs, psOf_len, XL] at h
        exact h
      have TP : Hid (∀ W, SlQ W a' ps → Calls Try.prog 35 #[.slice a' ps.length c'] W fun e w' => e = .returned (.slice (some ⟨W.heap.size, 0, none⟩) ps.length ps.length) ∧ (∃ gs, CopyPS w' W.heap.size gs xss) ∧ Below W.heap.size W w') := fun W h => by
        rw [hxs]; exact toInsSS a' c' ps W h (by omega) HLL.out
      have EQP : Hid (∀ (b1 b2 : Nat) (g1 g2 : List Nat) (W : World), CopyPS W b1 g1 xss → CopyPS W b2 g2 xss → Calls Try.prog 38 #[.slice (some ⟨b1, 0, none⟩) ps.length ps.length, .slice (some ⟨b2, 0, none⟩) ps.length ps.length] W fun e w' => e = .returned (.bool true) ∧ Below W.heap.size W w') := fun b1 b2 g1 g2 W h1 h2 => by
        have h := eqInsSS b1 b2 g1 g2 xss W h1 h2 (by omega) XB.out
        rw [XL] at h; exact h
      have MKP : Hid (∀ (b : Nat) (gs : List Nat) (k0 : Int) (W : World), CopyPS W b gs xss → 0 ≤ k0 → k0 ≤ 2 ^ 30 → Calls Try.prog 40 #[.slice (some ⟨b, 0, none⟩) ps.length ps.length, .int .i64 k0] W fun e w' => ∃ r : Int, e = .returned (.int .i64 r) ∧ 0 ≤ r ∧ Turned gs W w') := fun b gs k0 W h k1 k2 => by
        have h := markInsSS b gs xss k0 W h (by omega) XS.out k1 k2
        rw [XL] at h
        exact h.mono (fun e w' ⟨h1, h2⟩ => ⟨_, h1, by omega, h2⟩)
      have SZ' : Hid _ := SZ
      have HELF : Hid ((1048576 : Int) - (bs.length : Int) = (lf : Int)) := elf
      have HLF : Hid (lf = 1048576 - bs.length) := hlf
      clear XA XL hxs SZ elf hlf LL hn2
      generalize serialAll bs xss = RR at f1 IR SR
      obtain ⟨R, V⟩ := RR
      simp only at f1
      obtain ⟨f1, f2⟩ := f1
      have eb : (bs == bs) = true := by simp
      have er : (R == R) = true := by simp
      go_enter Try.func6, Try.ntmps6
      go_wp2_with fail
      refine (szBoxS a bs.length c 1048576 w m0 (by decide) (by decide)).mono ?_
      rintro e w1 ⟨rfl, hw⟩
      subst hw
      rw [if_neg (by omega), HELF.out]
      go_wp2_with fail
      refine Calls.mono SZ'.out ?_
      rintro e w2 ⟨rfl, hw⟩
      subst hw
      go_wp2_with fail
      refine (toBoxS a c bs w2 H0.out l0).mono ?_
      rintro e w3 ⟨rfl, x3, _, b3⟩
      have X3 : Hid (BoxAt w3 w2.heap.size 0 bs) := x3
      have B3 : Hid (Below w2.heap.size w2 w3) := b3
      clear x3 b3
      go_wp2_with fail
      refine Calls.mono (TP.out w3 (H1.out.below B3.out)) ?_
      rintro e w4 ⟨rfl, ⟨gs4, y4⟩, b4⟩
      have X4 : Hid (BoxAt w4 w2.heap.size 0 bs) := X3.out.below b4
      have Y4 : Hid (CopyPS w4 w3.heap.size gs4 xss) := y4
      have B4 : Hid (Below w2.heap.size w2 w4) := B3.out.trans (b4.mono B3.out.size)
      clear y4 b4
      go_wp2_with fail
      refine Calls.mono (SR.out _ _ _ w4 X4.out Y4.out) ?_
      rintro e X ⟨⟨s1, d1, sv, rfl, _, hs, hsv, _⟩, b5⟩
      have SX : Hid (OwnB X w4.heap.size s1 R) := hs
      have SVX : Hid (OwnI X w4.heap.size sv V) := hsv
      have SG : Hid (R = [] ∨ ∃ g, s1 = some ⟨g, 0, none⟩ ∧ g < X.heap.size) := by
        rcases hs with h | ⟨g, e, _, h, _⟩
        · exact .inl h
        · exact .inr ⟨g, e, h.1⟩
      have SVG : Hid (∀ g, sv.ownBlock = some g → g < X.heap.size) := fun g e => (World.ownsRow.lt hsv g e).2
      have BX : Hid (Below w2.heap.size w2 X) := B4.out.trans (b5.mono B4.out.size)
      clear hs hsv b5
      go_wp2_with fail
      refine (toBoxS a c bs X (H0.out.below BX.out) l0).mono ?_
      rintro e w6 ⟨rfl, x6, r6, b6⟩
      have X6 : Hid (BoxAt w6 X.heap.size 0 bs ∧ Row w6 X.heap.size bs.length) := ⟨x6, r6⟩
      have K6 : Hid (Below X.heap.size X w6) := b6
      clear x6 b6 r6
      go_wp2_with fail
      refine Calls.mono (TP.out w6 ((H1.out.below BX.out).below K6.out)) ?_
      rintro e w7 ⟨rfl, ⟨gs7, y7⟩, b7⟩
      have X7 : Hid (BoxAt w7 X.heap.size 0 bs ∧ Row w7 X.heap.size bs.length) := ⟨X6.out.1.below b7, X6.out.2.below b7 X6.out.1.1⟩
      have Y7 : Hid (CopyPS w7 w6.heap.size gs7 xss) := y7
      have K7 : Hid (Below X.heap.size X w7) := K6.out.trans (b7.mono K6.out.size)
      have S67 : Hid (X.heap.size < w6.heap.size ∧ w6.heap.size < w7.heap.size) := ⟨X6.out.1.1, y7.lt0⟩
      have G7 : Hid (∀ x, x ∈ gs7 → w6.heap.size < x ∧ x < w7.heap.size) := fun x hx => by
        obtain ⟨i, hi, rfl⟩ := List.getElem_of_mem hx
        have hi' : i < xss.length := by rw [← y7.len]; exact hi
        have e : gs7.getD i 0 = gs7[i] := by simp [List.getD, hi]
        rw [← e]
        exact ⟨y7.lo i hi', (y7.row i hi').lt⟩
      clear y7 b7
      go_wp2_with fail
      refine Calls.mono (IR.out _ _ _ w7 X7.out.1 Y7.out) ?_
      rintro e Z ⟨⟨g1, e1, gv, rfl, _, hg, hgv, hap⟩, bZ⟩
      have GZ : Hid (OwnB Z w7.heap.size g1 R) := hg
      have GVZ : Hid (OwnI Z w7.heap.size gv V) := hgv
      have HAP : Hid (R = [] ∨ ∀ g, g1 = some ⟨g, 0, none⟩ → gv.ownBlock ≠ some g) := hap
      have GVL : Hid (∀ g, gv.ownBlock = some g → w7.heap.size ≤ g) := fun g e => (World.ownsRow.lt hgv g e).1
      have KZ : Hid (Below X.heap.size X Z) := K7.out.trans (bZ.mono K7.out.size)
      have XZ : Hid (BoxAt Z X.heap.size 0 bs ∧ Row Z X.heap.size bs.length) := ⟨X7.out.1.below bZ, X7.out.2.below bZ X7.out.1.1⟩
      have YZ : Hid (CopyPS Z w6.heap.size gs7 xss) := Y7.out.below bZ
      have AT : Hid (∀ W : World, Below Z.heap.size Z W → Hid (OwnB W w4.heap.size s1 R ∧ OwnB W w7.heap.size g1 R ∧ (BoxAt W X.heap.size 0 bs ∧ Row W X.heap.size bs.length) ∧ CopyPS W w6.heap.size gs7 xss ∧ OwnI W w4.heap.size sv V ∧ OwnI W w7.heap.size gv V) ∧ Hid (Sl W a bs ∧ SlQ W a' ps)) := fun W hb =>
        ⟨⟨(SX.out.below KZ.out).below hb, GZ.out.below hb, ⟨XZ.out.1.below hb, XZ.out.2.below hb XZ.out.1.1⟩, YZ.out.below hb, (SVX.out.keep KZ.out).keep hb, GVZ.out.keep hb⟩, (((H0.out.below BX.out).below KZ.out).below hb), (((H1.out.below BX.out).below KZ.out).below hb)⟩
      have BZ : Hid (Below w2.heap.size w2 Z) := BX.out.trans (KZ.out.mono BX.out.size)
      clear hg hgv hap bZ
      obtain ⟨R0, SS0⟩ := AT.out Z (Below.refl _ _)
      go_wp2_with fail
      refine (eqBoxS g1 s1 e1 d1 R R Z R0.out.2.1.sl R0.out.1.sl (by omega) (by omega)).mono ?_
      rintro e w8 ⟨rfl, b8⟩
      rw [er]
      have K8 : Hid (Below Z.heap.size Z w8) := b8
      clear b8
      obtain ⟨R8, SS8⟩ := AT.out w8 K8.out
      go_wp2_with fail
      refine (eqOwn gv sv _ _ V w8 R8.out.2.2.2.2.2 R8.out.2.2.2.2.1 (by omega)).mono ?_
      rintro e w9 ⟨rfl, b9⟩
      have K9 : Hid (Below Z.heap.size Z w9) := K8.out.trans (b9.mono K8.out.size)
      clear b9
      obtain ⟨R9, SS9⟩ := AT.out w9 K9.out
      go_wp2_with fail
      refine (toBoxS a c bs w9 SS9.out.1 l0).mono ?_
      rintro e w10 ⟨rfl, x10, _, b10⟩
      have K10 : Hid (Below Z.heap.size Z w10) := K9.out.trans (b10.mono K9.out.size)
      have X10 : Hid (BoxAt w10 w9.heap.size 0 bs) := x10
      clear x10 b10
      obtain ⟨R10, _⟩ := AT.out w10 K10.out
      go_wp2_with fail
      refine (eqBoxS _ _ bs.length bs.length bs bs w10 (.inr ⟨_, _, rfl, R10.out.2.2.1.1⟩) (.inr ⟨_, _, rfl, X10.out⟩) l0 l0).mono ?_
      rintro e w11 ⟨rfl, b11⟩
      rw [eb]
      have K11 : Hid (Below Z.heap.size Z w11) := K10.out.trans (b11.mono K10.out.size)
      clear b11
      obtain ⟨R11, SS11⟩ := AT.out w11 K11.out
      go_wp2_with fail
      refine Calls.mono (TP.out w11 SS11.out.2) ?_
      rintro e w12 ⟨rfl, ⟨gs12, y12⟩, b12⟩
      have K12 : Hid (Below Z.heap.size Z w12) := K11.out.trans (b12.mono K11.out.size)
      have Y12 : Hid (CopyPS w12 w11.heap.size gs12 xss) := y12
      clear y12 b12
      obtain ⟨R12, _⟩ := AT.out w12 K12.out
      go_wp2_with fail
      refine Calls.mono (EQP.out _ _ _ _ w12 R12.out.2.2.2.1 Y12.out) ?_
      rintro e w13 ⟨rfl, b13⟩
      have K13 : Hid (Below Z.heap.size Z w13) := K12.out.trans (b13.mono K12.out.size)
      clear b13
      obtain ⟨R13, SS13⟩ := AT.out w13 K13.out
      go_wp2_with fail
      refine (markBoxB (some ⟨X.heap.size, 0, none⟩) bs.length bs.length 0 bs 1 w13 (.inr ⟨_, rfl, Nat.zero_le _, R13.out.2.2.1.1, fun o => R13.out.2.2.1.2.frozen o⟩) rfl l0 (by decide) (by decide)).mono ?_
      rintro e w14 ⟨rfl, _, t14⟩
      have T14 : Hid (Turned [X.heap.size] w13 w14) := Turned.ofOnlyB t14 (fun g e => by injection e with e; injection e with e1; simp [e1])
      clear t14
      have YW : Hid (CopyPS w14 w6.heap.size gs7 xss) := by
        have y := R13.out.2.2.2.1
        have s67 := S67.out
        have hl : ∀ i, i < xss.length → gs7.getD i 0 ∉ [X.heap.size] := fun i hi hx => by
          simp only [List.mem_singleton] at hx
          have := y.lo i hi
          omega
        exact ⟨y.len, Nat.lt_of_lt_of_le y.lt0 T14.out.size, fun i hi => (World.cell?_of_block (w := w13) (a := ⟨w6.heap.size, i, none⟩) (T14.out.block _ y.lt0 (by simp; omega))).trans (y.cell i hi), fun i hi => (y.at4 i hi).turned T14.out (hl i hi), fun i hi => (y.row i hi).turnedN T14.out (hl i hi), y.lo, y.asc⟩
      go_wp2_with fail
      refine Calls.mono (MKP.out w6.heap.size gs7 (1 + 2 * bs.length) w14 YW.out (by omega) (by omega)) ?_
      rintro e w15 ⟨r15, rfl, hr15, t15⟩
      have T15 : Hid (Turned (X.heap.size :: gs7) w13 w15) := (T14.out.mono (by simp)).trans (t15.mono (fun x hx => List.mem_cons_of_mem _ hx))
      clear t15
      have hs6 := S67.out
      have InL : Hid (∀ x, x ∈ X.heap.size :: gs7 → X.heap.size ≤ x ∧ x < w7.heap.size) := fun x hx => by
        rcases List.mem_cons.1 hx with h | h
        · omega
        · have := G7.out x h; omega
      have S15 : Hid (Sl w15 s1 R) := by
        rcases SG.out with h | ⟨g, e, h⟩
        · exact .inl h
        · exact R13.out.1.sl.turned T15.out (fun x e' hx => by rw [e] at e'; injection e' with e'; subst e'; have := InL.out _ hx; simp at this; omega)
      have SV15 : Hid (OwnI w15 w4.heap.size sv V) := R13.out.2.2.2.2.1.turnedL T15.out (fun g e hx => by have := SVG.out g e; have := InL.out _ hx; omega)
      have G15 : Hid (OwnB w15 w7.heap.size g1 R) := by
        by_cases hne : R = []
        · exact .inl hne
        · exact R13.out.2.1.turned T15.out (fun g e hx => by have := R13.out.2.1.from g hne e; have := InL.out _ hx; omega)
      have GV15 : Hid (OwnI w15 w7.heap.size gv V) := R13.out.2.2.2.2.2.turnedL T15.out (fun g e hx => by have := GVL.out g e; have := InL.out _ hx; omega)
      have W15 : Hid (Below w2.heap.size w2 w15) := by
        have h := BZ.out.trans (K13.out.mono BZ.out.size)
        exact h.trans (T15.out.below (fun x hx => by have := BX.out.size; have := InL.out x hx; omega) h.size)
      have pos : ¬ r15 < 0 := by omega
      clear R0 R8 R9 R10 R11 R12 R13 SS0 SS8 SS9 SS11 SS13 AT T14 T15 YW
      go_wp2_with fail
      refine (eqBoxS g1 s1 e1 d1 R R w15 G15.out.sl S15.out (by omega) (by omega)).mono ?_
      rintro e w16 ⟨rfl, b16⟩
      rw [er]
      have S16 : Hid (Sl w16 s1 R ∧ OwnI w16 w4.heap.size sv V) := ⟨S15.out.below b16, SV15.out.keep b16⟩
      have G16 : Hid (OwnB w16 w7.heap.size g1 R ∧ OwnI w16 w7.heap.size gv V) := ⟨G15.out.below b16, GV15.out.keep b16⟩
      have W16 : Hid (Below w2.heap.size w2 w16) := W15.out.trans (b16.mono W15.out.size)
      clear b16
      go_wp2_with fail
      refine (eqOwn gv sv _ _ V w16 G16.out.2 S16.out.2 (by omega)).mono ?_
      rintro e w17 ⟨rfl, b17⟩
      have S17 : Hid (Sl w17 s1 R ∧ OwnI w17 w4.heap.size sv V) := ⟨S16.out.1.below b17, S16.out.2.keep b17⟩
      have G17 : Hid (OwnB w17 w7.heap.size g1 R ∧ OwnI w17 w7.heap.size gv V) := ⟨G16.out.1.below b17, G16.out.2.keep b17⟩
      have W17 : Hid (Below w2.heap.size w2 w17) := W16.out.trans (b17.mono W16.out.size)
      clear b17
      go_wp2_with fail
      refine (markBoxB g1 e1 R.length w7.heap.size R 1 w17 G17.out.1 rfl (by omega) (by decide) (by decide)).mono ?_
      rintro e w18 ⟨rfl, k1, t18⟩
      have O18 : Hid (OwnB w18 w7.heap.size g1 (marks 1 R.length)) := k1
      have b18 : Below w7.heap.size w17 w18 := t18.below G17.out.1.from
      have sBX := BX.out.size
      have S18 : Hid (Sl w18 s1 R ∧ OwnI w18 w4.heap.size sv V) := by
        refine ⟨?_, S17.out.2.belowB b18 (fun g e => by have := SVG.out g e; omega)⟩
        rcases SG.out with h' | ⟨g, e, h'⟩
        · exact .inl h'
        · rcases S17.out.1 with h | ⟨b, off, e2, h⟩
          · exact .inl h
          · rw [e] at e2
            injection e2 with e2
            injection e2 with e3 e4
            subst e3 e4
            have hc : ∀ o, w18.cell? ⟨g, o, none⟩ = w17.cell? ⟨g, o, none⟩ := fun o => b18.cell (p := ⟨g, o, none⟩) (by show g < _; omega)
            exact .inr ⟨g, 0, e, Nat.lt_of_lt_of_le h.1 b18.size, fun i hi => by rw [hc, hc]; exact h.2 i hi⟩
      have GV18 : Hid (OwnI w18 w7.heap.size gv V) := by
        rcases t18 with ⟨_, rfl⟩ | ⟨g, hne, e, ho⟩
        · exact G17.out.2
        · refine G17.out.2.turnedL (Turned.ofOnly (L := [g]) ho (by simp)) (fun x hx hm => ?_)
          simp only [List.mem_singleton] at hm
          subst hm
          rcases HAP.out with h | h
          · exact hne h
          · exact h x e hx
      have W18 : Hid (Below w2.heap.size w2 w18) := W17.out.trans (b18.mono (by omega))
      clear t18 k1 b18
      go_wp2_with fail
      refine (markOwnK gv w7.heap.size V (1 + 2 * R.length) w18 GV18.out (by omega) (by omega) (by omega)).mono ?_
      rintro e w19 ⟨rfl, hk19, ⟨L19, t19, hL19⟩⟩
      have HK19 : Hid (HeldK w19 gv (1 + 2 * R.length) V.length) := hk19
      have O19 : Hid (OwnB w19 w7.heap.size g1 (marks 1 R.length)) := by
        by_cases hne : R = []
        · exact .inl (by rw [hne]; rfl)
        · refine O18.out.turned t19 (fun g e hm => ?_)
          have hb := hL19 g hm
          rcases HAP.out with h | h
          · exact hne h
          · exact h g e hb
      have S19 : Hid (Sl w19 s1 R ∧ OwnI w19 w4.heap.size sv V) := by
        have far : ∀ x, x ∈ L19 → w7.heap.size ≤ x := fun x hx => GVL.out x (hL19 x hx)
        refine ⟨?_, S18.out.2.turnedL t19 (fun g e hm => by have := SVG.out g e; have := far g hm; omega)⟩
        rcases SG.out with h | ⟨g, e, h⟩
        · exact .inl h
        · exact S18.out.1.turned t19 (fun x e' hx => by rw [e] at e'; injection e' with e'; subst e'; have := far _ hx; simp at this; omega)
      have W19 : Hid (Below w2.heap.size w2 w19) := W18.out.trans (t19.below (fun x hx => by have := GVL.out x (hL19 x hx); omega) W18.out.size)
      clear t19 hL19 hk19
      go_wp2_with fail
      refine (heldBoxB g1 e1 R.length w7.heap.size 1 w19 O19.out (by omega) (by decide) (by decide)).mono ?_
      rintro e w20 ⟨rfl, hw⟩
      subst hw
      have ps1 : ¬ (1 : Int) + 2 * (R.length : Int) < 0 := by omega
      go_wp2_with fail
      refine (heldOwnK gv V.length (1 + 2 * R.length) w20 HK19.out (by omega) (by omega) (by omega)).mono ?_
      rintro e w21 ⟨rfl, hw⟩
      subst hw
      have ps2 : ¬ (1 : Int) + 2 * (R.length : Int) + (V.length : Int) < 0 := by omega
      have pe : ((1 : Int) + 2 * (R.length : Int) + (V.length : Int) != 1 + 2 * (R.length : Int) + (V.length : Int)) = false := by simp
      go_wp2_with fail
      refine (toBoxS a c bs w21 (H0.out.below W19.out) l0).mono ?_
      rintro e w22 ⟨rfl, x22, _, b22⟩
      have X22 : Hid (BoxAt w22 w21.heap.size 0 bs) := x22
      have K22 : Hid (Below w21.heap.size w21 w22) := b22
      clear x22 b22
      go_wp2_with fail
      refine Calls.mono (TP.out w22 ((H1.out.below W19.out).below K22.out)) ?_
      rintro e w23 ⟨rfl, ⟨gs23, y23⟩, b23⟩
      have X23 : Hid (BoxAt w23 w21.heap.size 0 bs) := X22.out.below b23
      have Y23 : Hid (CopyPS w23 w22.heap.size gs23 xss) := y23
      have K23 : Hid (Below w21.heap.size w21 w23) := K22.out.trans (b23.mono K22.out.size)
      clear y23 b23
      go_wp2_with fail
      refine Calls.mono (IR.out _ _ _ w23 X23.out Y23.out) ?_
      rintro e U ⟨⟨h1, i1, hv, rfl, _, ho, hi, _⟩, b24⟩
      have bU : Below w21.heap.size w21 U := K23.out.trans (b24.mono K23.out.size)
      have HU : Hid (OwnB U w23.heap.size h1 R ∧ OwnI U w23.heap.size hv V) := ⟨ho, hi⟩
      have OU : Hid (OwnB U w7.heap.size g1 (marks 1 R.length) ∧ HeldK U gv (1 + 2 * R.length) V.length) := ⟨O19.out.below bU, HK19.out.keep bU⟩
      have SU : Hid (Sl U s1 R ∧ OwnI U w4.heap.size sv V) := ⟨S19.out.1.below bU, S19.out.2.keep bU⟩
      have WU : Hid (Below w2.heap.size w2 U) := W19.out.trans (bU.mono W19.out.size)
      clear bU b24 ho hi
      go_wp2_with fail
      refine (eqBoxS h1 s1 i1 d1 R R U HU.out.1.sl SU.out.1 (by omega) (by omega)).mono ?_
      rintro e w25 ⟨rfl, b25⟩
      rw [er]
      have H25 : Hid (OwnI w25 w23.heap.size hv V ∧ OwnI w25 w4.heap.size sv V) := ⟨HU.out.2.keep b25, SU.out.2.keep b25⟩
      have O25 : Hid (OwnB w25 w7.heap.size g1 (marks 1 R.length) ∧ HeldK w25 gv (1 + 2 * R.length) V.length) := ⟨OU.out.1.below b25, OU.out.2.keep b25⟩
      have W25 : Hid (Below w2.heap.size w2 w25) := WU.out.trans (b25.mono WU.out.size)
      clear b25
      go_wp2_with fail
      refine (eqOwn hv sv _ _ V w25 H25.out.1 H25.out.2 (by omega)).mono ?_
      rintro e w26 ⟨rfl, b26⟩
      have O26 : Hid (OwnB w26 w7.heap.size g1 (marks 1 R.length) ∧ HeldK w26 gv (1 + 2 * R.length) V.length) := ⟨O25.out.1.below b26, O25.out.2.keep b26⟩
      have W26 : Hid (Below w2.heap.size w2 w26) := W25.out.trans (b26.mono W25.out.size)
      clear b26
      go_wp2_with fail
      refine (heldBoxB g1 e1 R.length w7.heap.size 1 w26 O26.out.1 (by omega) (by decide) (by decide)).mono ?_
      rintro e w27 ⟨rfl, hw⟩
      subst hw
      go_wp2_with fail
      refine (heldOwnK gv V.length (1 + 2 * R.length) w27 O26.out.2 (by omega) (by omega) (by omega)).mono ?_
      rintro e w28 ⟨rfl, hw⟩
      subst hw
      go_wp2_with fail
      go_ret
      exact ⟨rfl, W26.out⟩
    · have hlt : lf < ps.length + sumL ps ps.length := Nat.lt_of_not_le (fun h => hn2 (by omega))
      rw [if_pos hlt] at SZ
      have SZ' : Hid _ := SZ
      have HELF : Hid ((1048576 : Int) - (bs.length : Int) = (lf : Int)) := elf
      clear SZ hlf elf hn2 hlt
      go_enter Try.func6, Try.ntmps6
      go_wp2_with fail
      refine (szBoxS a bs.length c 1048576 w m0 (by decide) (by decide)).mono ?_
      rintro e w1 ⟨rfl, hw⟩
      subst hw
      rw [if_neg (by omega), HELF.out]
      go_wp2_with fail
      refine Calls.mono SZ'.out ?_
      rintro e w2 ⟨rfl, hw⟩
      subst hw
      go_wp2_with fail
      go_ret
      exact ⟨rfl, Below.refl _ _⟩
  · go_enter Try.func6, Try.ntmps6
    go_wp2_with fail
    refine (szBoxS a bs.length c 1048576 w m0 (by decide) (by decide)).mono ?_
    rintro e w1 ⟨rfl, hw⟩
    subst hw
    rw [if_pos (by omega)]
    go_wp2_with fail
    go_ret
    exact ⟨rfl, Below.refl _ _⟩
end Go.Proofs.Ytgcencilgpilaaa.Own
