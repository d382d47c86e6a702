/-
  Own text, by program (gen_fnmsgentry.py): laws.FnMsgEntry.
-/
import Derived.Test.YtokbakphfodabaaDoorPk10
import Derived.Test.YtokbakphfodabaaDoorPk3
import Derived.Test.YtokbakphfodabaaDoorPk11
import Derived.Test.YtokbakphfodabaaDoorPk12
import Derived.BigQuiet
import Derived.Lib.QuietBelow
import Derived.Deep.Cut
namespace Go.Proofs.YtokbakphfodabaaDoor.Own
open Go.RowKit Go.Sort
set_option linter.unusedVariables false
set_option linter.unusedSimpArgs false

/-- An entry that can be read. -/
structure RdE (w : World) (n : Bool) (p q : Int) (a1 : Option Addr) (c1 : Nat) (xs : List P2) (a2 : Option Addr) (c2 : Nat) (ys : List P2) (v k : Int) : Prop where
  s1 : Sl w a1 xs
  s2 : Sl w a2 ys
  l1 : xs.length ≤ 4
  l2 : ys.length ≤ 4
  k1 : xs.length ≤ c1
  k2 : ys.length ≤ c2
  wf : WfE ⟨n, p, q, xs, ys, v, k⟩
theorem RdE.below {w w' : World} {n : Bool} {p q : Int} {a1 : Option Addr} {c1 : Nat} {xs : List P2} {a2 : Option Addr} {c2 : Nat} {ys : List P2} {v k : Int} (h : RdE w n p q a1 c1 xs a2 c2 ys v k) (hb : Below w.heap.size w w') : RdE w' n p q a1 c1 xs a2 c2 ys v k :=
  ⟨h.s1.below hb, h.s2.below hb, h.l1, h.l2, h.k1, h.k2, h.wf⟩
theorem OneOwn.rd {w : World} {B : Nat} {n : Bool} {p q : Int} {a1 : Option Addr} {c1 : Nat} {xs : List P2} {a2 : Option Addr} {c2 : Nat} {ys : List P2} {v k : Int} (h : OneOwn w B ⟨0, ⟨n, p, q, xs, ys, v, k⟩, a1, c1, a2, c2⟩) (hl : xs.length ≤ 4 ∧ ys.length ≤ 4) (hf : FitsE ⟨n, p, q, xs, ys, v, k⟩) : RdE w n p q a1 c1 xs a2 c2 ys v k :=
  ⟨h.l1.sl, h.l2.sl, hl.1, hl.2, h.c1, h.c2, hf.wf⟩
theorem Bytes.overF {w w' : World} {B : Nat} {a : Option Addr} {n : Nat} (h : Bytes w w.heap.size a n) (hb : Below w.heap.size w w') : Bytes w' w'.heap.size a n := h.belowF hb
theorem bytes_extE {s t : ByteArray} (h : s.toList = t.toList) : s = t := by
  rw [ByteArray.toList_eq, ByteArray.toList_eq] at h
  obtain ⟨⟨x⟩⟩ := s
  obtain ⟨⟨y⟩⟩ := t
  have : x = y := h
  rw [this]
theorem data_same (s t : ByteArray) : (s.toList == t.toList) = decide (s = t) := by
  rw [Bool.eq_iff_iff, beq_iff_eq, decide_eq_true_eq]
  exact ⟨bytes_extE, fun h => by rw [h]⟩

set_option maxRecDepth 100000 in
set_option maxHeartbeats 8000000 in
theorem lawFnMsgEntry (a : Option Addr) (m c : Nat) (a' : Option Addr) (m' c' : Nat) (w : World) (ht : Tab w) (h : Bytes w w.heap.size a m) (hc : m ≤ c) (hm : c ≤ maxLen) (h' : Bytes w w.heap.size a' m') (hc' : m' ≤ c') (hm' : c' ≤ maxLen) :
    Calls Tryd.prog 7 #[.slice a m c, .slice a' m' c'] w fun e w' => e = .returned (.bool true) ∧ Below w.heap.size w w' := by
  have HT : Hid (Tab w) := ht
  have HB : Hid (Bytes w w.heap.size a m) := h
  have HB' : Hid (Bytes w w.heap.size a' m') := h'
  have HM : Hid (c ≤ maxLen) := hm
  have HM' : Hid (c' ≤ maxLen) := hm'
  clear h h' ht
  unfold maxLen at hm hm'
  by_cases hn : m ≤ 1048576
  · have hd : decide ((1048576 : Int) < (m : Int)) = false := by simp; omega
    by_cases hn' : m' ≤ 1048576
    · have hd' : decide ((1048576 : Int) < (m' : Int)) = false := by simp; omega
      go_enter Tryd.func7, Tryd.ntmps7
      go_wp2_with fail
      refine (drawCertLike a m c w HB.out hc HM.out).mono ?_
      rintro e w1 ⟨n, p, q, a1, c1, xs, a2, c2, ys, v, k, n', p', q', b1, d1, zs, b2, d2, us, v', k', rfl, ⟨⟨B1, o1⟩, l1, g1⟩, ⟨⟨B2, o2⟩, l2, g2⟩, hb1⟩
      obtain ⟨W1, hW1⟩ : ∃ W, W = (w1.alloc (.cells #[Value.bool n, Value.int IntKind.i64 p, Value.int IntKind.i64 q, Value.slice a1 xs.length c1, Value.slice a2 ys.length c2, Value.int IntKind.i64 v, Value.int IntKind.i64 k] 34)).alloc (.cells #[Value.bool n', Value.int IntKind.i64 p', Value.int IntKind.i64 q', Value.slice b1 zs.length d1, Value.slice b2 us.length d2, Value.int IntKind.i64 v', Value.int IntKind.i64 k'] 34) := ⟨_, rfl⟩
      have k1 : Below w1.heap.size w1 W1 := by rw [hW1]; exact ((Below.refl _ _).alloc (Nat.le_refl _) _).alloc (by simp) _
      have K1 : Hid (Below w.heap.size w W1) := hb1.trans (k1.mono hb1.size)
      have GA : Hid (Blk W1 w1.heap.size #[Value.bool n, Value.int IntKind.i64 p, Value.int IntKind.i64 q, Value.slice a1 xs.length c1, Value.slice a2 ys.length c2, Value.int IntKind.i64 v, Value.int IntKind.i64 k] 34) := by show Blk _ _ _ _; rw [hW1]; exact (Blk.new _ _ _).alloc _
      have GB : Hid (Blk W1 (w1.heap.size + 1) #[Value.bool n', Value.int IntKind.i64 p', Value.int IntKind.i64 q', Value.slice b1 zs.length d1, Value.slice b2 us.length d2, Value.int IntKind.i64 v', Value.int IntKind.i64 k'] 34) := by show Blk _ _ _ _; rw [hW1]; exact Blk.new2 _ _ _ _
      have RA1 : Hid (RdE W1 n p q a1 c1 xs a2 c2 ys v k) := (o1.rd l1 g1).below k1
      have RB1 : Hid (RdE W1 n' p' q' b1 d1 zs b2 d2 us v' k') := (o2.rd l2 g2).below k1
      have HW1 : Hid (W1 = _) := hW1
      clear hW1 k1 hb1 o1 o2 l1 l2 g1 g2
      go_wp2_with fail
      rw [← HW1.out]
      refine (drawMsgEntry a' m' c' W1 (HB'.out.belowF K1.out) hc' HM'.out).mono ?_
      rintro e w2 ⟨m0, p3, q3, f1, e1, rs, f2, e2, ps, v3, k3, rfl, o3, l3, g3, hb2⟩
      obtain ⟨X, hX⟩ : ∃ W, W = w2.alloc (.cells #[Value.bool m0, Value.int IntKind.i64 p3, Value.int IntKind.i64 q3, Value.slice f1 rs.length e1, Value.slice f2 ps.length e2, Value.int IntKind.i64 v3, Value.int IntKind.i64 k3] 34) := ⟨_, rfl⟩
      have kX : Below w2.heap.size w2 X := by rw [hX]; exact below_new _ _
      have BX1 : Below W1.heap.size W1 X := hb2.trans (kX.mono hb2.size)
      have BX : Hid (Below w.heap.size w X) := K1.out.trans (BX1.mono K1.out.size)
      have HA : Hid (Blk X w1.heap.size #[Value.bool n, Value.int IntKind.i64 p, Value.int IntKind.i64 q, Value.slice a1 xs.length c1, Value.slice a2 ys.length c2, Value.int IntKind.i64 v, Value.int IntKind.i64 k] 34) := GA.out.keep BX1
      have HBk : Hid (Blk X (w1.heap.size + 1) #[Value.bool n', Value.int IntKind.i64 p', Value.int IntKind.i64 q', Value.slice b1 zs.length d1, Value.slice b2 us.length d2, Value.int IntKind.i64 v', Value.int IntKind.i64 k'] 34) := GB.out.keep BX1
      have HC : Hid (Blk X w2.heap.size #[Value.bool m0, Value.int IntKind.i64 p3, Value.int IntKind.i64 q3, Value.slice f1 rs.length e1, Value.slice f2 ps.length e2, Value.int IntKind.i64 v3, Value.int IntKind.i64 k3] 34) := by show Blk _ _ _ _; rw [hX]; exact Blk.new _ _ _
      have RA : Hid (RdE X n p q a1 c1 xs a2 c2 ys v k) := RA1.out.below BX1
      have RB : Hid (RdE X n' p' q' b1 d1 zs b2 d2 us v' k') := RB1.out.below BX1
      have RC : Hid (RdE X m0 p3 q3 f1 e1 rs f2 e2 ps v3 k3) := (o3.rd l3 g3).below kX
      have TX : Hid (∀ W, Below X.heap.size X W → Tab W) := fun W hb => tab_below HT.out HT.out (BX.out.trans (hb.mono BX.out.size)) (Nat.le_refl _)
      have HX : Hid (X = _) := hX
      clear hX kX BX1 hb2 o3 l3 g3
      go_upto_region 5 with fail
      rw [← HX.out]
      clear HX HW1 GA GB RA1 RB1 K1
      have IMA : Hid (∀ W, Below X.heap.size X W → Calls Tryd.prog 26 #[Value.agg #[Value.bool n, Value.int IntKind.i64 p, Value.int IntKind.i64 q, Value.slice a1 xs.length c1, Value.slice a2 ys.length c2, Value.int IntKind.i64 v, Value.int IntKind.i64 k]] W fun e w' => e = .returned (.string (str (entText ⟨n, p, q, xs, ys, v, k⟩))) ∧ Below W.heap.size W w') := fun W hb => implMsgEntry n p q a1 a2 c1 c2 xs ys v k W (TX.out W hb) (RA.out.below hb).s1 (RA.out.below hb).s2 (RA.out.below hb).wf (by have := (RA.out.below hb).l1; omega) (by have := (RA.out.below hb).l2; omega)
      have IMB : Hid (∀ W, Below X.heap.size X W → Calls Tryd.prog 26 #[Value.agg #[Value.bool n', Value.int IntKind.i64 p', Value.int IntKind.i64 q', Value.slice b1 zs.length d1, Value.slice b2 us.length d2, Value.int IntKind.i64 v', Value.int IntKind.i64 k']] W fun e w' => e = .returned (.string (str (entText ⟨n', p', q', zs, us, v', k'⟩))) ∧ Below W.heap.size W w') := fun W hb => implMsgEntry n' p' q' b1 b2 d1 d2 zs us v' k' W (TX.out W hb) (RB.out.below hb).s1 (RB.out.below hb).s2 (RB.out.below hb).wf (by have := (RB.out.below hb).l1; omega) (by have := (RB.out.below hb).l2; omega)
      have IMC : Hid (∀ W, Below X.heap.size X W → Calls Tryd.prog 26 #[Value.agg #[Value.bool m0, Value.int IntKind.i64 p3, Value.int IntKind.i64 q3, Value.slice f1 rs.length e1, Value.slice f2 ps.length e2, Value.int IntKind.i64 v3, Value.int IntKind.i64 k3]] W fun e w' => e = .returned (.string (str (entText ⟨m0, p3, q3, rs, ps, v3, k3⟩))) ∧ Below W.heap.size W w') := fun W hb => implMsgEntry m0 p3 q3 f1 f2 e1 e2 rs ps v3 k3 W (TX.out W hb) (RC.out.below hb).s1 (RC.out.below hb).s2 (RC.out.below hb).wf (by have := (RC.out.below hb).l1; omega) (by have := (RC.out.below hb).l2; omega)
      have SMA : Hid (∀ W, Below X.heap.size X W → Calls Tryd.prog 27 #[Value.agg #[Value.bool n, Value.int IntKind.i64 p, Value.int IntKind.i64 q, Value.slice a1 xs.length c1, Value.slice a2 ys.length c2, Value.int IntKind.i64 v, Value.int IntKind.i64 k]] W fun e w' => e = .returned (.string (str (entText ⟨n, p, q, xs, ys, v, k⟩))) ∧ Below W.heap.size W w') := fun W hb => specMsgEntry n p q a1 a2 c1 c2 xs ys v k W (RA.out.below hb).s1 (RA.out.below hb).s2 (RA.out.below hb).wf (by have := (RA.out.below hb).l1; omega) (by have := (RA.out.below hb).l2; omega)
      have IAB : Hid (∀ W, Below X.heap.size X W → Calls Tryd.prog 19 #[Value.agg #[Value.bool n, Value.int IntKind.i64 p, Value.int IntKind.i64 q, Value.slice a1 xs.length c1, Value.slice a2 ys.length c2, Value.int IntKind.i64 v, Value.int IntKind.i64 k], Value.agg #[Value.bool n', Value.int IntKind.i64 p', Value.int IntKind.i64 q', Value.slice b1 zs.length d1, Value.slice b2 us.length d2, Value.int IntKind.i64 v', Value.int IntKind.i64 k']] W fun e w' => e = .returned (.bool (likeE n n' (p, q) (p', q') xs ys zs us v k v' k')) ∧ Below W.heap.size W w') := fun W hb => implCertLike n n' p q p' q' a1 a2 b1 b2 c1 c2 d1 d2 xs ys zs us v k v' k' W (RA.out.below hb).s1 (RA.out.below hb).s2 (RB.out.below hb).s1 (RB.out.below hb).s2 (by have := (RA.out.below hb).l1; omega) (by have := (RA.out.below hb).l2; omega) (by have := (RB.out.below hb).l1; omega) (by have := (RB.out.below hb).l2; omega)
      have SAB : Hid (∀ W, Below X.heap.size X W → Calls Tryd.prog 20 #[Value.agg #[Value.bool n, Value.int IntKind.i64 p, Value.int IntKind.i64 q, Value.slice a1 xs.length c1, Value.slice a2 ys.length c2, Value.int IntKind.i64 v, Value.int IntKind.i64 k], Value.agg #[Value.bool n', Value.int IntKind.i64 p', Value.int IntKind.i64 q', Value.slice b1 zs.length d1, Value.slice b2 us.length d2, Value.int IntKind.i64 v', Value.int IntKind.i64 k']] W fun e w' => e = .returned (.bool (likeE n n' (p, q) (p', q') xs ys zs us v k v' k')) ∧ Below W.heap.size W w') := fun W hb => specCertLike n n' p q p' q' a1 a2 b1 b2 c1 c2 d1 d2 xs ys zs us v k v' k' W (RA.out.below hb).s1 (RA.out.below hb).s2 (RB.out.below hb).s1 (RB.out.below hb).s2 (by have := (RA.out.below hb).l1; omega) (by have := (RA.out.below hb).l2; omega) (by have := (RB.out.below hb).l1; omega) (by have := (RB.out.below hb).l2; omega)
      have IAC : Hid (∀ W, Below X.heap.size X W → Calls Tryd.prog 19 #[Value.agg #[Value.bool n, Value.int IntKind.i64 p, Value.int IntKind.i64 q, Value.slice a1 xs.length c1, Value.slice a2 ys.length c2, Value.int IntKind.i64 v, Value.int IntKind.i64 k], Value.agg #[Value.bool m0, Value.int IntKind.i64 p3, Value.int IntKind.i64 q3, Value.slice f1 rs.length e1, Value.slice f2 ps.length e2, Value.int IntKind.i64 v3, Value.int IntKind.i64 k3]] W fun e w' => e = .returned (.bool (likeE n m0 (p, q) (p3, q3) xs ys rs ps v k v3 k3)) ∧ Below W.heap.size W w') := fun W hb => implCertLike n m0 p q p3 q3 a1 a2 f1 f2 c1 c2 e1 e2 xs ys rs ps v k v3 k3 W (RA.out.below hb).s1 (RA.out.below hb).s2 (RC.out.below hb).s1 (RC.out.below hb).s2 (by have := (RA.out.below hb).l1; omega) (by have := (RA.out.below hb).l2; omega) (by have := (RC.out.below hb).l1; omega) (by have := (RC.out.below hb).l2; omega)
      have OKA : Hid (∀ W, Below X.heap.size X W → Calls Tryd.prog 15 #[Value.agg #[Value.bool n, Value.int IntKind.i64 p, Value.int IntKind.i64 q, Value.slice a1 xs.length c1, Value.slice a2 ys.length c2, Value.int IntKind.i64 v, Value.int IntKind.i64 k]] W fun e w' => e = .returned (.bool (entOk n p q xs ys v k)) ∧ Below W.heap.size W w') := fun W hb => specCertEntry n p q a1 a2 c1 c2 xs ys v k W (RA.out.below hb).s1 (RA.out.below hb).s2 (by have := (RA.out.below hb).l1; omega) (by have := (RA.out.below hb).l2; omega) (RA.out.below hb).k1 (RA.out.below hb).k2
      have OKB : Hid (∀ W, Below X.heap.size X W → Calls Tryd.prog 15 #[Value.agg #[Value.bool n', Value.int IntKind.i64 p', Value.int IntKind.i64 q', Value.slice b1 zs.length d1, Value.slice b2 us.length d2, Value.int IntKind.i64 v', Value.int IntKind.i64 k']] W fun e w' => e = .returned (.bool (entOk n' p' q' zs us v' k')) ∧ Below W.heap.size W w') := fun W hb => specCertEntry n' p' q' b1 b2 d1 d2 zs us v' k' W (RB.out.below hb).s1 (RB.out.below hb).s2 (by have := (RB.out.below hb).l1; omega) (by have := (RB.out.below hb).l2; omega) (RB.out.below hb).k1 (RB.out.below hb).k2
      have OKC : Hid (∀ W, Below X.heap.size X W → Calls Tryd.prog 15 #[Value.agg #[Value.bool m0, Value.int IntKind.i64 p3, Value.int IntKind.i64 q3, Value.slice f1 rs.length e1, Value.slice f2 ps.length e2, Value.int IntKind.i64 v3, Value.int IntKind.i64 k3]] W fun e w' => e = .returned (.bool (entOk m0 p3 q3 rs ps v3 k3)) ∧ Below W.heap.size W w') := fun W hb => specCertEntry m0 p3 q3 f1 f2 e1 e2 rs ps v3 k3 W (RC.out.below hb).s1 (RC.out.below hb).s2 (by have := (RC.out.below hb).l1; omega) (by have := (RC.out.below hb).l2; omega) (RC.out.below hb).k1 (RC.out.below hb).k2
      have EAB : Hid (entOk n p q xs ys v k = true → entOk n' p' q' zs us v' k' = true → likeE n n' (p, q) (p', q') xs ys zs us v k v' k' = ((str (entText ⟨n, p, q, xs, ys, v, k⟩)).toList == (str (entText ⟨n', p', q', zs, us, v', k'⟩)).toList)) := fun h1 h2 => by rw [data_same]; exact like_text (a := ⟨n, p, q, xs, ys, v, k⟩) (b := ⟨n', p', q', zs, us, v', k'⟩) h1 h2
      have EAC : Hid (entOk n p q xs ys v k = true → entOk m0 p3 q3 rs ps v3 k3 = true → likeE n m0 (p, q) (p3, q3) xs ys rs ps v k v3 k3 = ((str (entText ⟨n, p, q, xs, ys, v, k⟩)).toList == (str (entText ⟨m0, p3, q3, rs, ps, v3, k3⟩)).toList)) := fun h1 h2 => by rw [data_same]; exact like_text (a := ⟨n, p, q, xs, ys, v, k⟩) (b := ⟨m0, p3, q3, rs, ps, v3, k3⟩) h1 h2
      clear TX RA RB RC
      generalize str (entText ⟨n, p, q, xs, ys, v, k⟩) = SA at IMA SMA EAB EAC
      generalize str (entText ⟨n', p', q', zs, us, v', k'⟩) = SB at IMB EAB
      generalize str (entText ⟨m0, p3, q3, rs, ps, v3, k3⟩) = SC at IMC EAC
      generalize likeE n n' (p, q) (p', q') xs ys zs us v k v' k' = LAB at IAB SAB EAB
      generalize likeE n m0 (p, q) (p3, q3) xs ys rs ps v k v3 k3 = LAC at IAC EAC
      generalize entOk n p q xs ys v k = rA at OKA EAB EAC
      generalize entOk n' p' q' zs us v' k' = rB at OKB EAB
      generalize entOk m0 p3 q3 rs ps v3 k3 = rC at OKC EAC
      have es : (LAB != LAB) = false := by simp
      have QIMA : Hid (∀ d os, Calls Tryd.prog 26 #[Value.agg #[Value.bool n, Value.int IntKind.i64 p, Value.int IntKind.i64 q, Value.slice a1 xs.length c1, Value.slice a2 ys.length c2, Value.int IntKind.i64 v, Value.int IntKind.i64 k]] (grow (redrawn X d) os) fun e w'' => e = .returned (.string SA) ∧ ∃ p : Regrown, w'' = grow (redrawn X p.d) p.os) := fun d os => Calls.regrown_of (IMA.out _ (below_regrown X d os))
      have QSMA : Hid (∀ d os, Calls Tryd.prog 27 #[Value.agg #[Value.bool n, Value.int IntKind.i64 p, Value.int IntKind.i64 q, Value.slice a1 xs.length c1, Value.slice a2 ys.length c2, Value.int IntKind.i64 v, Value.int IntKind.i64 k]] (grow (redrawn X d) os) fun e w'' => e = .returned (.string SA) ∧ ∃ p : Regrown, w'' = grow (redrawn X p.d) p.os) := fun d os => Calls.regrown_of (SMA.out _ (below_regrown X d os))
      have QIAB : Hid (∀ d os, Calls Tryd.prog 19 #[Value.agg #[Value.bool n, Value.int IntKind.i64 p, Value.int IntKind.i64 q, Value.slice a1 xs.length c1, Value.slice a2 ys.length c2, Value.int IntKind.i64 v, Value.int IntKind.i64 k], Value.agg #[Value.bool n', Value.int IntKind.i64 p', Value.int IntKind.i64 q', Value.slice b1 zs.length d1, Value.slice b2 us.length d2, Value.int IntKind.i64 v', Value.int IntKind.i64 k']] (grow (redrawn X d) os) fun e w'' => e = .returned (.bool LAB) ∧ ∃ p : Regrown, w'' = grow (redrawn X p.d) p.os) := fun d os => Calls.regrown_of (IAB.out _ (below_regrown X d os))
      have QSAB : Hid (∀ d os, Calls Tryd.prog 20 #[Value.agg #[Value.bool n, Value.int IntKind.i64 p, Value.int IntKind.i64 q, Value.slice a1 xs.length c1, Value.slice a2 ys.length c2, Value.int IntKind.i64 v, Value.int IntKind.i64 k], Value.agg #[Value.bool n', Value.int IntKind.i64 p', Value.int IntKind.i64 q', Value.slice b1 zs.length d1, Value.slice b2 us.length d2, Value.int IntKind.i64 v', Value.int IntKind.i64 k']] (grow (redrawn X d) os) fun e w'' => e = .returned (.bool LAB) ∧ ∃ p : Regrown, w'' = grow (redrawn X p.d) p.os) := fun d os => Calls.regrown_of (SAB.out _ (below_regrown X d os))
      obtain ⟨a0_, a1_, a2_, a3_, a4_, a5_, a6_⟩ := HA.out.cells7
      have am0 := cell_regrown a0_
      have am1 := cell_regrown a1_
      have am2 := cell_regrown a2_
      have am3 := cell_regrown a3_
      have am4 := cell_regrown a4_
      have am5 := cell_regrown a5_
      have am6 := cell_regrown a6_
      clear a0_ a1_ a2_ a3_ a4_ a5_ a6_
      obtain ⟨b0_, b1_, b2_, b3_, b4_, b5_, b6_⟩ := HBk.out.cells7
      have bm0 := cell_regrown b0_
      have bm1 := cell_regrown b1_
      have bm2 := cell_regrown b2_
      have bm3 := cell_regrown b3_
      have bm4 := cell_regrown b4_
      have bm5 := cell_regrown b5_
      have bm6 := cell_regrown b6_
      clear b0_ b1_ b2_ b3_ b4_ b5_ b6_
      refine wp_region_quiet_below (by kernel_rfl) (by kernel_rfl) ?_
      repeat (go_big_quiet_step (first | (go_at_call_of 26 (#[Value.agg #[Value.bool n, Value.int IntKind.i64 p, Value.int IntKind.i64 q, Value.slice a1 xs.length c1, Value.slice a2 ys.length c2, Value.int IntKind.i64 v, Value.int IntKind.i64 k]]); exact QIMA.out _ _) | (go_at_call_of 27 (#[Value.agg #[Value.bool n, Value.int IntKind.i64 p, Value.int IntKind.i64 q, Value.slice a1 xs.length c1, Value.slice a2 ys.length c2, Value.int IntKind.i64 v, Value.int IntKind.i64 k]]); exact QSMA.out _ _) | (go_at_call_of 19 (#[Value.agg #[Value.bool n, Value.int IntKind.i64 p, Value.int IntKind.i64 q, Value.slice a1 xs.length c1, Value.slice a2 ys.length c2, Value.int IntKind.i64 v, Value.int IntKind.i64 k], Value.agg #[Value.bool n', Value.int IntKind.i64 p', Value.int IntKind.i64 q', Value.slice b1 zs.length d1, Value.slice b2 us.length d2, Value.int IntKind.i64 v', Value.int IntKind.i64 k']]); exact QIAB.out _ _) | (go_at_call_of 20 (#[Value.agg #[Value.bool n, Value.int IntKind.i64 p, Value.int IntKind.i64 q, Value.slice a1 xs.length c1, Value.slice a2 ys.length c2, Value.int IntKind.i64 v, Value.int IntKind.i64 k], Value.agg #[Value.bool n', Value.int IntKind.i64 p', Value.int IntKind.i64 q', Value.slice b1 zs.length d1, Value.slice b2 us.length d2, Value.int IntKind.i64 v', Value.int IntKind.i64 k']]); exact QSAB.out _ _)))
      refine wpQuiet_nil ?_
      intro Y hw'
      obtain ⟨⟨dq, osq⟩, hw''⟩ := hw'
      have hx : Below X.heap.size X Y := by rw [hw'']; exact below_regrown X dq osq
      have XY : Hid (Below X.heap.size X Y) := hx
      clear hx hw'' am0 am1 am2 am3 am4 am5 am6 bm0 bm1 bm2 bm3 bm4 bm5 bm6 QIMA QSMA QIAB QSAB es
      obtain ⟨a0, a1_, a2_, a3, a4, a5, a6⟩ := (HA.out.keep XY.out).cells7
      go_wp2_with fail
      refine Calls.mono (OKA.out Y XY.out) ?_
      rintro e y1 ⟨rfl, b⟩
      have X1 : Hid (Below X.heap.size X y1) := XY.out.trans (b.mono XY.out.size)
      clear b a0 a1_ a2_ a3 a4 a5 a6
      cases hrA : rA with
      | false =>
        go_wp2_with fail
        go_ret
        exact ⟨rfl, BX.out.trans (X1.out.mono BX.out.size)⟩
      | true =>
        obtain ⟨a0, a1_, a2_, a3, a4, a5, a6⟩ := (HBk.out.keep X1.out).cells7
        go_wp2_with fail
        refine Calls.mono (OKB.out y1 X1.out) ?_
        rintro e y2 ⟨rfl, b⟩
        have X2 : Hid (Below X.heap.size X y2) := X1.out.trans (b.mono X1.out.size)
        clear b a0 a1_ a2_ a3 a4 a5 a6
        cases hrB : rB with
        | false =>
          go_wp2_with fail
          go_ret
          exact ⟨rfl, BX.out.trans (X2.out.mono BX.out.size)⟩
        | true =>
          obtain ⟨a0, a1_, a2_, a3, a4, a5, a6⟩ := (HC.out.keep X2.out).cells7
          go_wp2_with fail
          refine Calls.mono (OKC.out y2 X2.out) ?_
          rintro e y3 ⟨rfl, b⟩
          have X3 : Hid (Below X.heap.size X y3) := X2.out.trans (b.mono X2.out.size)
          clear b a0 a1_ a2_ a3 a4 a5 a6
          cases hrC : rC with
          | false =>
            go_wp2_with fail
            go_ret
            exact ⟨rfl, BX.out.trans (X3.out.mono BX.out.size)⟩
          | true =>
            have eAB := EAB.out hrA hrB
            have eAC := EAC.out hrA hrC
            go_upto_region 9 with fail
            have QIAB : Hid (∀ d os, Calls Tryd.prog 19 #[Value.agg #[Value.bool n, Value.int IntKind.i64 p, Value.int IntKind.i64 q, Value.slice a1 xs.length c1, Value.slice a2 ys.length c2, Value.int IntKind.i64 v, Value.int IntKind.i64 k], Value.agg #[Value.bool n', Value.int IntKind.i64 p', Value.int IntKind.i64 q', Value.slice b1 zs.length d1, Value.slice b2 us.length d2, Value.int IntKind.i64 v', Value.int IntKind.i64 k']] (grow (redrawn y3 d) os) fun e w'' => e = .returned (.bool LAB) ∧ ∃ p : Regrown, w'' = grow (redrawn y3 p.d) p.os) := fun d os => Calls.regrown_of (IAB.out _ (X3.out.trans ((below_regrown y3 d os).mono X3.out.size)))
            have QIMA : Hid (∀ d os, Calls Tryd.prog 26 #[Value.agg #[Value.bool n, Value.int IntKind.i64 p, Value.int IntKind.i64 q, Value.slice a1 xs.length c1, Value.slice a2 ys.length c2, Value.int IntKind.i64 v, Value.int IntKind.i64 k]] (grow (redrawn y3 d) os) fun e w'' => e = .returned (.string SA) ∧ ∃ p : Regrown, w'' = grow (redrawn y3 p.d) p.os) := fun d os => Calls.regrown_of (IMA.out _ (X3.out.trans ((below_regrown y3 d os).mono X3.out.size)))
            have QIMB : Hid (∀ d os, Calls Tryd.prog 26 #[Value.agg #[Value.bool n', Value.int IntKind.i64 p', Value.int IntKind.i64 q', Value.slice b1 zs.length d1, Value.slice b2 us.length d2, Value.int IntKind.i64 v', Value.int IntKind.i64 k']] (grow (redrawn y3 d) os) fun e w'' => e = .returned (.string SB) ∧ ∃ p : Regrown, w'' = grow (redrawn y3 p.d) p.os) := fun d os => Calls.regrown_of (IMB.out _ (X3.out.trans ((below_regrown y3 d os).mono X3.out.size)))
            have QIAC : Hid (∀ d os, Calls Tryd.prog 19 #[Value.agg #[Value.bool n, Value.int IntKind.i64 p, Value.int IntKind.i64 q, Value.slice a1 xs.length c1, Value.slice a2 ys.length c2, Value.int IntKind.i64 v, Value.int IntKind.i64 k], Value.agg #[Value.bool m0, Value.int IntKind.i64 p3, Value.int IntKind.i64 q3, Value.slice f1 rs.length e1, Value.slice f2 ps.length e2, Value.int IntKind.i64 v3, Value.int IntKind.i64 k3]] (grow (redrawn y3 d) os) fun e w'' => e = .returned (.bool LAC) ∧ ∃ p : Regrown, w'' = grow (redrawn y3 p.d) p.os) := fun d os => Calls.regrown_of (IAC.out _ (X3.out.trans ((below_regrown y3 d os).mono X3.out.size)))
            have QIMC : Hid (∀ d os, Calls Tryd.prog 26 #[Value.agg #[Value.bool m0, Value.int IntKind.i64 p3, Value.int IntKind.i64 q3, Value.slice f1 rs.length e1, Value.slice f2 ps.length e2, Value.int IntKind.i64 v3, Value.int IntKind.i64 k3]] (grow (redrawn y3 d) os) fun e w'' => e = .returned (.string SC) ∧ ∃ p : Regrown, w'' = grow (redrawn y3 p.d) p.os) := fun d os => Calls.regrown_of (IMC.out _ (X3.out.trans ((below_regrown y3 d os).mono X3.out.size)))
            obtain ⟨a0_, a1_, a2_, a3_, a4_, a5_, a6_⟩ := (HA.out.keep X3.out).cells7
            have am0 := cell_regrown a0_
            have am1 := cell_regrown a1_
            have am2 := cell_regrown a2_
            have am3 := cell_regrown a3_
            have am4 := cell_regrown a4_
            have am5 := cell_regrown a5_
            have am6 := cell_regrown a6_
            clear a0_ a1_ a2_ a3_ a4_ a5_ a6_
            obtain ⟨b0_, b1_, b2_, b3_, b4_, b5_, b6_⟩ := (HBk.out.keep X3.out).cells7
            have bm0 := cell_regrown b0_
            have bm1 := cell_regrown b1_
            have bm2 := cell_regrown b2_
            have bm3 := cell_regrown b3_
            have bm4 := cell_regrown b4_
            have bm5 := cell_regrown b5_
            have bm6 := cell_regrown b6_
            clear b0_ b1_ b2_ b3_ b4_ b5_ b6_
            obtain ⟨c0_, c1_, c2_, c3_, c4_, c5_, c6_⟩ := (HC.out.keep X3.out).cells7
            have cm0 := cell_regrown c0_
            have cm1 := cell_regrown c1_
            have cm2 := cell_regrown c2_
            have cm3 := cell_regrown c3_
            have cm4 := cell_regrown c4_
            have cm5 := cell_regrown c5_
            have cm6 := cell_regrown c6_
            clear c0_ c1_ c2_ c3_ c4_ c5_ c6_
            have eE1 : (LAB == (SA.toList == SB.toList)) = true := by rw [eAB]; simp
            have eE2 : (LAC == (SA.toList == SC.toList)) = true := by rw [eAC]; simp
            clear eAB eAC hrA hrB hrC
            refine wp_region_quiet_below (by kernel_rfl) (by kernel_rfl) ?_
            repeat (go_big_quiet_step (first | (go_at_call_of 19 (#[Value.agg #[Value.bool n, Value.int IntKind.i64 p, Value.int IntKind.i64 q, Value.slice a1 xs.length c1, Value.slice a2 ys.length c2, Value.int IntKind.i64 v, Value.int IntKind.i64 k], Value.agg #[Value.bool n', Value.int IntKind.i64 p', Value.int IntKind.i64 q', Value.slice b1 zs.length d1, Value.slice b2 us.length d2, Value.int IntKind.i64 v', Value.int IntKind.i64 k']]); exact QIAB.out _ _) | (go_at_call_of 26 (#[Value.agg #[Value.bool n, Value.int IntKind.i64 p, Value.int IntKind.i64 q, Value.slice a1 xs.length c1, Value.slice a2 ys.length c2, Value.int IntKind.i64 v, Value.int IntKind.i64 k]]); exact QIMA.out _ _) | (go_at_call_of 26 (#[Value.agg #[Value.bool n', Value.int IntKind.i64 p', Value.int IntKind.i64 q', Value.slice b1 zs.length d1, Value.slice b2 us.length d2, Value.int IntKind.i64 v', Value.int IntKind.i64 k']]); exact QIMB.out _ _) | (go_at_call_of 19 (#[Value.agg #[Value.bool n, Value.int IntKind.i64 p, Value.int IntKind.i64 q, Value.slice a1 xs.length c1, Value.slice a2 ys.length c2, Value.int IntKind.i64 v, Value.int IntKind.i64 k], Value.agg #[Value.bool m0, Value.int IntKind.i64 p3, Value.int IntKind.i64 q3, Value.slice f1 rs.length e1, Value.slice f2 ps.length e2, Value.int IntKind.i64 v3, Value.int IntKind.i64 k3]]); exact QIAC.out _ _) | (go_at_call_of 26 (#[Value.agg #[Value.bool m0, Value.int IntKind.i64 p3, Value.int IntKind.i64 q3, Value.slice f1 rs.length e1, Value.slice f2 ps.length e2, Value.int IntKind.i64 v3, Value.int IntKind.i64 k3]]); exact QIMC.out _ _)))
            refine wpQuiet_nil ?_
            intro Y2 hw'
            obtain ⟨⟨dq, osq⟩, hw''⟩ := hw'
            have hx : Below y3.heap.size y3 Y2 := by rw [hw'']; exact below_regrown y3 dq osq
            have XZ : Hid (Below X.heap.size X Y2) := X3.out.trans (hx.mono X3.out.size)
            clear hx hw''
            go_wp2_with fail
            go_ret
            exact ⟨by simp [eE2], BX.out.trans (XZ.out.mono BX.out.size)⟩
    · have hd' : decide ((1048576 : Int) < (m' : Int)) = true := by simp; omega
      go_enter Tryd.func7, Tryd.ntmps7
      go_wp2_with fail
      go_ret
      exact ⟨rfl, Below.refl _ _⟩
  · have hd : decide ((1048576 : Int) < (m : Int)) = true := by simp; omega
    go_enter Tryd.func7, Tryd.ntmps7
    go_wp2_with fail
    go_ret
    exact ⟨rfl, Below.refl _ _⟩
end Go.Proofs.YtokbakphfodabaaDoor.Own
