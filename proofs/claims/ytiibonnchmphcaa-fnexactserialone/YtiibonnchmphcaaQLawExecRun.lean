/-
  Own text: laws.FnExactExecRun.
-/
import Derived.Test.YtiibonnchmphcaaPk8
import Derived.Test.YtiibonnchmphcaaQRunB
import Derived.Test.YtiibonnchmphcaaQMarkB
import Derived.Test.YtiibonnchmphcaaQMarkRun
import Derived.Test.YtiibonnchmphcaaQRunEq
import Derived.Test.YtiibonnchmphcaaQTo
import Derived.Test.YtiibonnchmphcaaQEq
import Derived.Test.YtiibonnchmphcaaQTo4
import Derived.Test.YtiibonnchmphcaaQEq4
import Derived.Test.YtiibonnchmphcaaQMark4
namespace Go.Proofs.Ytiibonnchmphcaa.Own
open Go.RowKit
set_option linter.unusedVariables false
set_option linter.unusedSimpArgs false

theorem eqRunB (o : RunOut) (a1 a2 b1 b2 : Option Addr) (c1 c2 d1 d2 B B' : Nat) (w : World) (h : RunB o B w a1 a2) (h' : RunB o B' w b1 b2) (l1 : o.reads.length ≤ 4) (l2 : o.puts.length ≤ 4) :
    Calls Try.prog 48 #[.agg #[.slice a1 o.reads.length c1, .slice a2 o.puts.length c2, .int .i64 o.val, .int .i64 o.code], .agg #[.slice b1 o.reads.length d1, .slice b2 o.puts.length d2, .int .i64 o.val, .int .i64 o.code]] w fun e w' => e = .returned (.bool true) ∧ Below w.heap.size w w' :=
  eqRun a1 a2 b1 b2 c1 c2 d1 d2 o.reads o.puts o.reads o.puts o.val o.code o.val o.code w h.reads.sl h.puts.sl h'.reads.sl h'.puts.sl (by omega) (by omega) (by omega) (by omega) ⟨rfl, rfl, rfl, rfl⟩

/-- What laws.markInsS leaves of a slice that a call made. -/
theorem markInsT (b n c : Nat) (k : Int) (w : World) (hn : n ≤ 2 ^ 40) (hk0 : 0 ≤ k) (hk : k ≤ 2 ^ 40) (h : Row4 w b n) :
    Calls Try.prog 52 #[.slice (some ⟨b, 0, none⟩) n c, .int .i64 k] w fun e w' => e = .returned (.int .i64 (k + 4 * n)) ∧ Turned [b] w w' := by
  refine (markInsS b 0 n c k w hn hk0 hk (fun o => h.frozen o) (fun i hi => by rw [Nat.zero_add]; exact h.cell i (by omega)) h.lt).mono ?_
  rintro e w' ⟨rfl, _, ho⟩
  exact ⟨rfl, Turned.ofOnly ho (by simp)⟩
theorem Row4.turned {L : List Nat} {w w' : World} {b n : Nat} (h : Row4 w b n) (ht : Turned L w w') (hb : b ∉ L) : Row4 w' b n := by
  have hl := h.lt
  obtain ⟨C, hC, r⟩ := h
  exact ⟨C, by rw [ht.block b hl hb]; exact hC, r⟩

set_option maxRecDepth 100000 in
set_option maxHeartbeats 4000000 in
theorem lawExecRun (a : Option Addr) (c : Nat) (bs : List P2) (a' : Option Addr) (c' : Nat) (xs : List Q4) (w : World) (h0 : Sl w a bs) (m0 : bs.length ≤ maxLen) (h1 : Sl4 w a' xs) (m1 : xs.length ≤ maxLen) :
    Calls Try.prog 11 #[.slice a bs.length c, .slice a' xs.length c'] w fun e w' => e = .returned (.bool true) ∧ Below w.heap.size w w' := by
  have H0 : Hid (Sl w a bs) := h0
  have H1 : Hid (Sl4 w a' xs) := h1
  clear h0 h1
  by_cases hn : bs.length ≤ 1048576
  · by_cases hn2 : xs.length ≤ 1048576 - bs.length
    · have l0 : bs.length ≤ 2 ^ 40 := by omega
      have l1 : xs.length ≤ 2 ^ 40 := by omega
      obtain ⟨o, ho⟩ : ∃ o, o = execRun bs xs := ⟨_, rfl⟩
      have f1 : o.reads.length ≤ 4 := by rw [ho]; exact (execRun_four bs xs).1
      have f2 : o.puts.length ≤ 4 := by rw [ho]; exact (execRun_four bs xs).2
      have IR : Hid (∀ (b g : Nat) (W : World), BoxAt W b 0 bs → At4 W g 0 xs → Calls Try.prog 16 #[.slice (some ⟨b, 0, none⟩) bs.length bs.length, .slice (some ⟨g, 0, none⟩) xs.length xs.length] W fun e w' => RunPost o W.heap.size e w' ∧ Below W.heap.size W w') := fun b g W hb hg => by rw [ho]; exact implRun _ _ bs.length xs.length bs xs W (.inr ⟨_, _, rfl, hb⟩) (.inr ⟨_, _, rfl, hg⟩) (Nat.le_refl _) l1
      have SR : Hid (∀ (b g : Nat) (W : World), BoxAt W b 0 bs → At4 W g 0 xs → Calls Try.prog 18 #[.slice (some ⟨b, 0, none⟩) bs.length bs.length, .slice (some ⟨g, 0, none⟩) xs.length xs.length] W fun e w' => RunPost o W.heap.size e w' ∧ Below W.heap.size W w') := fun b g W hb hg => by rw [ho]; exact specRun _ _ bs.length xs.length bs xs W (.inr ⟨_, _, rfl, hb⟩) (.inr ⟨_, _, rfl, hg⟩) l0 l1
      clear ho
      have eb : (bs == bs) = true := by simp
      have ex : (xs == xs) = true := by simp
      go_enter Try.func11, Try.ntmps11
      go_wp2_with fail
      refine (szBoxS a bs.length c 1048576 w m0 (by decide) (by decide)).mono ?_
      rintro e w1 ⟨rfl, hw⟩
      subst hw
      rw [if_neg (by omega)]
      go_wp2_with fail
      refine (szInsS a' xs.length c' (1048576 - bs.length) w1 m1 (by omega) (by omega)).mono ?_
      rintro e w2 ⟨rfl, hw⟩
      subst hw
      rw [if_neg (by omega)]
      go_wp2_with fail
      refine (toBoxS a c bs w2 H0.out l0).mono ?_
      rintro e w3 ⟨rfl, x3, _, b3⟩
      have X3 : Hid (BoxAt w3 w2.heap.size 0 bs) := x3
      have B3 : Hid (Below w2.heap.size w2 w3) := b3
      clear x3 b3
      go_wp2_with fail
      refine (toInsS a' c' xs w3 (H1.out.below B3.out) l1).mono ?_
      rintro e w4 ⟨rfl, y4, _, b4⟩
      have X4 : Hid (BoxAt w4 w2.heap.size 0 bs) := X3.out.below b4
      have Y4 : Hid (At4 w4 w3.heap.size 0 xs) := y4
      have B4 : Hid (Below w2.heap.size w2 w4) := B3.out.trans (b4.mono B3.out.size)
      clear y4 b4
      go_wp2_with fail
      refine Calls.mono (SR.out _ _ w4 X4.out Y4.out) ?_
      rintro e w5 ⟨hp5, b5⟩
      obtain ⟨s1, d1, s2, d2, rfl, hr5⟩ := hp5.open
      -- what the specification says, in a block of its own
      obtain ⟨X, hX⟩ : ∃ X, X = w5.alloc (.cells #[.slice s1 o.reads.length d1, .slice s2 o.puts.length d2, .int .i64 o.val, .int .i64 o.code] 30) := ⟨_, rfl⟩
      have bX : Below w5.heap.size w5 X := by rw [hX]; exact below_new _ _
      have CX : Hid (C4 X w5.heap.size (.slice s1 o.reads.length d1) (.slice s2 o.puts.length d2) (.int .i64 o.val) (.int .i64 o.code)) := by show C4 _ _ _ _ _ _; rw [hX]; exact C4.new _ _ _ _ _ _
      have SX : Hid (RunB o w4.heap.size X s1 s2) := hr5.below bX
      have BX : Hid (Below w2.heap.size w2 X) := (B4.out.trans (b5.mono B4.out.size)).trans (bX.mono (Nat.le_trans B4.out.size b5.size))
      have HX : Hid (X = _) := hX
      clear hX bX hr5 b5 hp5
      go_upto_region 9 with fail
      rw [← HX.out]
      go_wp2_with fail
      refine (toBoxS a c bs X (H0.out.below BX.out) l0).mono ?_
      rintro e w6 ⟨rfl, x6, r6, b6⟩
      have X6 : Hid (BoxAt w6 X.heap.size 0 bs ∧ Row w6 X.heap.size bs.length) := ⟨x6, r6⟩
      have K6 : Hid (Below X.heap.size X w6) := b6
      clear x6 b6 r6
      go_wp2_with fail
      refine (toInsS a' c' xs w6 ((H1.out.below BX.out).below K6.out) l1).mono ?_
      rintro e w7 ⟨rfl, y7, r7, b7⟩
      have X7 : Hid (BoxAt w7 X.heap.size 0 bs ∧ Row w7 X.heap.size bs.length) := ⟨X6.out.1.below b7, X6.out.2.below b7 X6.out.1.1⟩
      have Y7 : Hid (At4 w7 w6.heap.size 0 xs ∧ Row4 w7 w6.heap.size xs.length) := ⟨y7, r7⟩
      have K7 : Hid (Below X.heap.size X w7) := K6.out.trans (b7.mono K6.out.size)
      have S67 : Hid (X.heap.size < w6.heap.size ∧ w6.heap.size < w7.heap.size) := ⟨X6.out.1.1, y7.1⟩
      clear y7 b7 r7
      go_wp2_with fail
      refine Calls.mono (IR.out _ _ w7 X7.out.1 Y7.out.1) ?_
      rintro e w8 ⟨hp8, b8⟩
      obtain ⟨g1, e1, g2, e2, rfl, hr8⟩ := hp8.open
      have GF : Hid (∀ x, g1 = some x ∨ g2 = some x → w7.heap.size ≤ x.block ∧ x.block < w8.heap.size) := fun x e => by
        rcases e with e | e
        · exact hr8.far1 x e
        · exact hr8.far2 x e
      obtain ⟨Z, hZ⟩ : ∃ Z, Z = w8.alloc (.cells #[.slice g1 o.reads.length e1, .slice g2 o.puts.length e2, .int .i64 o.val, .int .i64 o.code] 30) := ⟨_, rfl⟩
      have bZ' : Below w8.heap.size w8 Z := by rw [hZ]; exact below_new _ _
      have bZ : Below w7.heap.size w7 Z := b8.trans (bZ'.mono b8.size)
      have CZ : Hid (C4 Z w8.heap.size (.slice g1 o.reads.length e1) (.slice g2 o.puts.length e2) (.int .i64 o.val) (.int .i64 o.code)) := by show C4 _ _ _ _ _ _; rw [hZ]; exact C4.new _ _ _ _ _ _
      have GZ : Hid (RunB o w7.heap.size Z g1 g2) := hr8.below bZ'
      have KZ : Hid (Below X.heap.size X Z) := K7.out.trans (bZ.mono K7.out.size)
      have XZ : Hid (BoxAt Z X.heap.size 0 bs ∧ Row Z X.heap.size bs.length) := ⟨X7.out.1.below bZ, X7.out.2.below bZ X7.out.1.1⟩
      have YZ : Hid (At4 Z w6.heap.size 0 xs ∧ Row4 Z w6.heap.size xs.length) := ⟨Y7.out.1.below bZ, Y7.out.2.below bZ Y7.out.1.1⟩
      have S8 : Hid (w7.heap.size ≤ w8.heap.size) := b8.size
      have HZ : Hid (Z = _) := hZ
      -- at every world in which no block below a mark has turned
      have AT : Hid (∀ W : World, Below Z.heap.size Z W → (C4 W w5.heap.size (.slice s1 o.reads.length d1) (.slice s2 o.puts.length d2) (.int .i64 o.val) (.int .i64 o.code) ∧ C4 W w8.heap.size (.slice g1 o.reads.length e1) (.slice g2 o.puts.length e2) (.int .i64 o.val) (.int .i64 o.code)) ∧ Hid (RunB o w4.heap.size W s1 s2 ∧ RunB o w7.heap.size W g1 g2 ∧ (BoxAt W X.heap.size 0 bs ∧ Row W X.heap.size bs.length) ∧ At4 W w6.heap.size 0 xs ∧ Row4 W w6.heap.size xs.length) ∧ Hid (Sl W a bs ∧ Sl4 W a' xs)) := fun W hb =>
        ⟨⟨(CX.out.below KZ.out).below hb, CZ.out.below hb⟩, ⟨(SX.out.below KZ.out).below hb, GZ.out.below hb, ⟨XZ.out.1.below hb, XZ.out.2.below hb XZ.out.1.1⟩, YZ.out.1.below hb, YZ.out.2.below hb YZ.out.1.1⟩, (((H0.out.below BX.out).below KZ.out).below hb), (((H1.out.below BX.out).below KZ.out).below hb)⟩
      have BZ : Hid (Below w2.heap.size w2 Z) := BX.out.trans (KZ.out.mono BX.out.size)
      clear hZ bZ bZ' hr8 b8 hp8
      obtain ⟨⟨⟨_, p0, p1, p2, p3⟩, _, q0, q1, q2, q3⟩, R0, SS0⟩ := AT.out Z (Below.refl _ _)
      go_upto_region 12 with fail
      rw [← HZ.out]
      go_wp2_with fail
      refine (eqRunB o g1 g2 s1 s2 e1 e2 d1 d2 _ _ Z R0.out.2.1 R0.out.1 f1 f2).mono ?_
      rintro e w9 ⟨rfl, b9⟩
      have K9 : Hid (Below Z.heap.size Z w9) := b9
      clear b9 p0 p1 p2 p3 q0 q1 q2 q3
      obtain ⟨_, R9, SS9⟩ := AT.out w9 K9.out
      go_wp2_with fail
      refine (toBoxS a c bs w9 SS9.out.1 l0).mono ?_
      rintro e w10 ⟨rfl, x10, _, b10⟩
      have K10 : Hid (Below Z.heap.size Z w10) := K9.out.trans (b10.mono K9.out.size)
      have X10 : Hid (BoxAt w10 w9.heap.size 0 bs) := x10
      clear x10 b10
      obtain ⟨_, R10, _⟩ := AT.out w10 K10.out
      go_wp2_with fail
      refine (eqBoxS _ _ bs.length bs.length bs bs w10 (.inr ⟨_, _, rfl, R10.out.2.2.1.1⟩) (.inr ⟨_, _, rfl, X10.out⟩) l0 l0).mono ?_
      rintro e w11 ⟨rfl, b11⟩
      rw [eb]
      have K11 : Hid (Below Z.heap.size Z w11) := K10.out.trans (b11.mono K10.out.size)
      clear b11
      obtain ⟨_, R11, SS11⟩ := AT.out w11 K11.out
      go_wp2_with fail
      refine (toInsS a' c' xs w11 SS11.out.2 l1).mono ?_
      rintro e w12 ⟨rfl, y12, _, b12⟩
      have K12 : Hid (Below Z.heap.size Z w12) := K11.out.trans (b12.mono K11.out.size)
      have Y12 : Hid (At4 w12 w11.heap.size 0 xs) := y12
      clear y12 b12
      obtain ⟨_, R12, _⟩ := AT.out w12 K12.out
      go_wp2_with fail
      refine (eqInsS _ _ xs.length xs.length xs xs w12 (.inr ⟨_, _, rfl, R12.out.2.2.2.1⟩) (.inr ⟨_, _, rfl, Y12.out⟩) l1 l1).mono ?_
      rintro e w13 ⟨rfl, b13⟩
      rw [ex]
      have K13 : Hid (Below Z.heap.size Z w13) := K12.out.trans (b13.mono K12.out.size)
      clear b13
      obtain ⟨C13, R13, SS13⟩ := AT.out w13 K13.out
      -- marks of what was handed in
      go_wp2_with fail
      refine (markBoxB (some ⟨X.heap.size, 0, none⟩) bs.length bs.length 0 bs 1 w13 (.inr ⟨_, rfl, Nat.zero_le _, R13.out.2.2.1.1, fun o => R13.out.2.2.1.2.frozen o⟩) rfl l0 (by decide) (by decide)).mono ?_
      rintro e w14 ⟨rfl, _, t14⟩
      have T14 : Hid (Turned [X.heap.size] w13 w14) := Turned.ofOnlyB t14 (fun g e => by injection e with e; injection e with e1; simp [e1])
      clear t14
      have RW : Hid (Row4 w14 w6.heap.size xs.length) := R13.out.2.2.2.2.turned T14.out (by have := S67.out; simp; omega)
      go_wp2_with fail
      refine (markInsT w6.heap.size xs.length xs.length (1 + 2 * bs.length) w14 l1 (by omega) (by omega) RW.out).mono ?_
      rintro e w15 ⟨rfl, t15⟩
      have T15 : Hid (Turned [X.heap.size, w6.heap.size] w13 w15) := (T14.out.mono (by simp)).trans (t15.mono (by simp))
      clear t15
      have hsz : w5.heap.size < X.heap.size := CX.out.1
      have hs6 := S67.out
      have hs8 := S8.out
      have n1 : ∀ x, s1 = some x → x.block < X.heap.size := fun x e => (SX.out.far1 x e).2
      have n2 : ∀ x, s2 = some x → x.block < X.heap.size := fun x e => (SX.out.far2 x e).2
      have N1 : Hid (∀ x, s1 = some x → x.block < X.heap.size) := n1
      have N2 : Hid (∀ x, s2 = some x → x.block < X.heap.size) := n2
      have M1 : Hid (∀ x, g1 = some x → w7.heap.size ≤ x.block) := fun x e => (GF.out x (.inl e)).1
      have M2 : Hid (∀ x, g2 = some x → w7.heap.size ≤ x.block) := fun x e => (GF.out x (.inr e)).1
      have S15 : Hid (RunB o w4.heap.size w15 s1 s2) := R13.out.1.turned T15.out (fun x e => by have := n1 x e; simp; omega) (fun x e => by have := n2 x e; simp; omega)
      have G15 : Hid (RunB o w7.heap.size w15 g1 g2) := R13.out.2.1.turned T15.out (fun x e => by have := M1.out x e; simp; omega) (fun x e => by have := M2.out x e; simp; omega)
      have D15 : Hid (C4 w15 w5.heap.size (.slice s1 o.reads.length d1) (.slice s2 o.puts.length d2) (.int .i64 o.val) (.int .i64 o.code)) := C13.1.turned T15.out (by simp; omega)
      have E15 : Hid (C4 w15 w8.heap.size (.slice g1 o.reads.length e1) (.slice g2 o.puts.length e2) (.int .i64 o.val) (.int .i64 o.code)) := C13.2.turned T15.out (by simp; omega)
      have W15 : Hid (Below w2.heap.size w2 w15) := by
        have h := BZ.out.trans (K13.out.mono BZ.out.size)
        exact h.trans (T15.out.below (fun x hx => by have := BX.out.size; simp at hx; omega) h.size)
      have Q15 : Hid (Sl w15 a bs ∧ Sl4 w15 a' xs) := ⟨H0.out.below W15.out, H1.out.below W15.out⟩
      have pos : ¬ (1 : Int) + 2 * (bs.length : Int) + 4 * (xs.length : Int) < 0 := by omega
      clear n1 n2 C13
      obtain ⟨_, p0, p1, p2, p3⟩ := D15.out
      obtain ⟨_, q0, q1, q2, q3⟩ := E15.out
      go_wp2_with fail
      refine (eqRunB o g1 g2 s1 s2 e1 e2 d1 d2 _ _ w15 G15.out S15.out f1 f2).mono ?_
      rintro e w16 ⟨rfl, b16⟩
      have S16 : Hid (RunB o w4.heap.size w16 s1 s2) := S15.out.below b16
      have G16 : Hid (RunB o w7.heap.size w16 g1 g2) := G15.out.below b16
      have D16 : Hid (C4 w16 w5.heap.size (.slice s1 o.reads.length d1) (.slice s2 o.puts.length d2) (.int .i64 o.val) (.int .i64 o.code)) := D15.out.below b16
      have E16 : Hid (C4 w16 w8.heap.size (.slice g1 o.reads.length e1) (.slice g2 o.puts.length e2) (.int .i64 o.val) (.int .i64 o.code)) := E15.out.below b16
      have W16 : Hid (Below w2.heap.size w2 w16) := W15.out.trans (b16.mono W15.out.size)
      clear b16 p0 p1 p2 p3 q0 q1 q2 q3
      obtain ⟨_, q0, q1, q2, q3⟩ := E16.out
      go_wp2_with fail
      refine (markRunB g1 g2 o.reads.length o.puts.length e1 e2 w7.heap.size o.reads o.puts o.val o.code 1 (blocksOf g1 g2) w16 G16.out.reads G16.out.puts G16.out.apart rfl rfl (by omega) (by omega) (by decide) (by decide) (fun g e => blocksOf_1 e) (fun g e => blocksOf_2 e)).mono ?_
      rintro e w17 ⟨rfl, k1, k2, t17⟩
      have BL : Hid (∀ x, x ∈ blocksOf g1 g2 → w7.heap.size ≤ x ∧ x < w8.heap.size) := fun x hx => by
        rcases mem_blocksOf hx with ⟨y, e, rfl⟩ | ⟨y, e, rfl⟩
        · exact GF.out y (.inl e)
        · exact GF.out y (.inr e)
      have O1 : Hid (OwnB w17 w7.heap.size g1 (marks 1 o.reads.length)) := k1
      have O2 : Hid (OwnB w17 w7.heap.size g2 (marks (1 + 2 * o.reads.length) o.puts.length)) := k2
      have D17 : Hid (C4 w17 w5.heap.size (.slice s1 o.reads.length d1) (.slice s2 o.puts.length d2) (.int .i64 o.val) (.int .i64 o.code)) := D16.out.turned t17 (fun hx => by have := BL.out _ hx; omega)
      have E17 : Hid (C4 w17 w8.heap.size (.slice g1 o.reads.length e1) (.slice g2 o.puts.length e2) (.int .i64 o.val) (.int .i64 o.code)) := E16.out.turned t17 (fun hx => by have := BL.out _ hx; omega)
      have S17 : Hid (RunB o w4.heap.size w17 s1 s2) := S16.out.turned t17 (fun x e hx => by have := BL.out _ hx; have := N1.out x e; omega) (fun x e hx => by have := BL.out _ hx; have := N2.out x e; omega)
      have W17 : Hid (Below w2.heap.size w2 w17) := W16.out.trans (t17.below (fun x hx => by have := BL.out _ hx; have := BX.out.size; omega) W16.out.size)
      clear t17 k1 k2 q0 q1 q2 q3
      obtain ⟨_, q0, q1, q2, q3⟩ := E17.out
      go_wp2_with fail
      refine (heldRunB g1 g2 o.reads.length o.puts.length e1 e2 w7.heap.size o.val o.code 1 w17 O1.out O2.out (by omega) (by omega) (by decide) (by decide)).mono ?_
      rintro e w18 ⟨rfl, b18⟩
      have O1' : Hid (OwnB w18 w7.heap.size g1 (marks 1 o.reads.length)) := O1.out.below b18
      have O2' : Hid (OwnB w18 w7.heap.size g2 (marks (1 + 2 * o.reads.length) o.puts.length)) := O2.out.below b18
      have D18 : Hid (C4 w18 w5.heap.size (.slice s1 o.reads.length d1) (.slice s2 o.puts.length d2) (.int .i64 o.val) (.int .i64 o.code)) := D17.out.below b18
      have E18 : Hid (C4 w18 w8.heap.size (.slice g1 o.reads.length e1) (.slice g2 o.puts.length e2) (.int .i64 o.val) (.int .i64 o.code)) := E17.out.below b18
      have S18 : Hid (RunB o w4.heap.size w18 s1 s2) := S17.out.below b18
      have W18 : Hid (Below w2.heap.size w2 w18) := W17.out.trans (b18.mono W17.out.size)
      clear b18 q0 q1 q2 q3
      have ps : ¬ (1 : Int) + 2 * (o.reads.length : Int) + 2 * (o.puts.length : Int) < 0 := by omega
      have pe : ((1 : Int) + 2 * (o.reads.length : Int) + 2 * (o.puts.length : Int) != 1 + 2 * (o.reads.length : Int) + 2 * (o.puts.length : Int)) = false := by simp
      go_wp2_with fail
      refine (toBoxS a c bs w18 (H0.out.below W18.out) l0).mono ?_
      rintro e w19 ⟨rfl, x19, _, b19⟩
      have X19 : Hid (BoxAt w19 w18.heap.size 0 bs) := x19
      have K19 : Hid (Below w18.heap.size w18 w19) := b19
      clear x19 b19
      go_wp2_with fail
      refine (toInsS a' c' xs w19 ((H1.out.below W18.out).below K19.out) l1).mono ?_
      rintro e w20 ⟨rfl, y20, _, b20⟩
      have X20 : Hid (BoxAt w20 w18.heap.size 0 bs) := X19.out.below b20
      have Y20 : Hid (At4 w20 w19.heap.size 0 xs) := y20
      have K20 : Hid (Below w18.heap.size w18 w20) := K19.out.trans (b20.mono K19.out.size)
      clear y20 b20
      go_wp2_with fail
      refine Calls.mono (IR.out _ _ w20 X20.out Y20.out) ?_
      rintro e w21 ⟨hp21, b21⟩
      obtain ⟨h1, i1, h2, i2, rfl, hr21⟩ := hp21.open
      obtain ⟨V, hV⟩ : ∃ V, V = w21.alloc (.cells #[.slice h1 o.reads.length i1, .slice h2 o.puts.length i2, .int .i64 o.val, .int .i64 o.code] 30) := ⟨_, rfl⟩
      have bV' : Below w21.heap.size w21 V := by rw [hV]; exact below_new _ _
      have bV : Below w18.heap.size w18 V := (K20.out.trans (b21.mono K20.out.size)).trans (bV'.mono (Nat.le_trans K20.out.size b21.size))
      have CV : Hid (C4 V w21.heap.size (.slice h1 o.reads.length i1) (.slice h2 o.puts.length i2) (.int .i64 o.val) (.int .i64 o.code)) := by show C4 _ _ _ _ _ _; rw [hV]; exact C4.new _ _ _ _ _ _
      have HV : Hid (RunB o w20.heap.size V h1 h2) := hr21.below bV'
      have O1v : Hid (OwnB V w7.heap.size g1 (marks 1 o.reads.length)) := O1'.out.below bV
      have O2v : Hid (OwnB V w7.heap.size g2 (marks (1 + 2 * o.reads.length) o.puts.length)) := O2'.out.below bV
      have Dv : Hid (C4 V w5.heap.size (.slice s1 o.reads.length d1) (.slice s2 o.puts.length d2) (.int .i64 o.val) (.int .i64 o.code)) := D18.out.below bV
      have Ev : Hid (C4 V w8.heap.size (.slice g1 o.reads.length e1) (.slice g2 o.puts.length e2) (.int .i64 o.val) (.int .i64 o.code)) := E18.out.below bV
      have Sv : Hid (RunB o w4.heap.size V s1 s2) := S18.out.below bV
      have Wv : Hid (Below w2.heap.size w2 V) := W18.out.trans (bV.mono W18.out.size)
      have HVe : Hid (V = _) := hV
      clear hV bV bV' hr21 b21 hp21
      obtain ⟨_, p0, p1, p2, p3⟩ := Dv.out
      obtain ⟨_, t0, t1, t2, t3⟩ := CV.out
      go_upto_region 32 with fail
      rw [← HVe.out]
      go_wp2_with fail
      refine (eqRunB o h1 h2 s1 s2 i1 i2 d1 d2 _ _ V HV.out Sv.out f1 f2).mono ?_
      rintro e w22 ⟨rfl, b22⟩
      have O1w : Hid (OwnB w22 w7.heap.size g1 (marks 1 o.reads.length)) := O1v.out.below b22
      have O2w : Hid (OwnB w22 w7.heap.size g2 (marks (1 + 2 * o.reads.length) o.puts.length)) := O2v.out.below b22
      have Ew : Hid (C4 w22 w8.heap.size (.slice g1 o.reads.length e1) (.slice g2 o.puts.length e2) (.int .i64 o.val) (.int .i64 o.code)) := Ev.out.below b22
      have Ww : Hid (Below w2.heap.size w2 w22) := Wv.out.trans (b22.mono Wv.out.size)
      clear b22 p0 p1 p2 p3 t0 t1 t2 t3
      obtain ⟨_, q0, q1, q2, q3⟩ := Ew.out
      go_wp2_with fail
      refine (heldRunB g1 g2 o.reads.length o.puts.length e1 e2 w7.heap.size o.val o.code 1 w22 O1w.out O2w.out (by omega) (by omega) (by decide) (by decide)).mono ?_
      rintro e w23 ⟨rfl, b23⟩
      have Wz : Hid (Below w2.heap.size w2 w23) := Ww.out.trans (b23.mono Ww.out.size)
      clear b23 q0 q1 q2 q3
      go_wp2_with fail
      go_ret
      exact ⟨rfl, Wz.out⟩
    · go_enter Try.func11, Try.ntmps11
      go_wp2_with fail
      refine (szBoxS a bs.length c 1048576 w m0 (by decide) (by decide)).mono ?_
      rintro e w1 ⟨rfl, hw⟩
      subst hw
      rw [if_neg (by omega)]
      go_wp2_with fail
      refine (szInsS a' xs.length c' (1048576 - bs.length) w1 m1 (by omega) (by omega)).mono ?_
      rintro e w2 ⟨rfl, hw⟩
      subst hw
      rw [if_pos (by omega)]
      go_wp2_with fail
      go_ret
      exact ⟨rfl, Below.refl _ _⟩
  · go_enter Try.func11, Try.ntmps11
    go_wp2_with fail
    refine (szBoxS a bs.length c 1048576 w m0 (by decide) (by decide)).mono ?_
    rintro e w1 ⟨rfl, hw⟩
    subst hw
    rw [if_pos (by omega)]
    go_wp2_with fail
    go_ret
    exact ⟨rfl, Below.refl _ _⟩
end Go.Proofs.Ytiibonnchmphcaa.Own
