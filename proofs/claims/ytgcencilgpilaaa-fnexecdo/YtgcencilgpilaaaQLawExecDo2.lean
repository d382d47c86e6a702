/-
  Own text: laws.FnExecDo.
-/
import Derived.Test.YtgcencilgpilaaaPk5
import Derived.Test.YtgcencilgpilaaaPk3
import Derived.Test.YtgcencilgpilaaaPk8
import Derived.Test.YtgcencilgpilaaaQDoMath2
import Derived.BigQuiet
import Derived.Lib.QuietBelow
import Derived.Deep.RegionHeld3
import Derived.Deep.Cut
namespace Go.Proofs.Ytgcencilgpilaaa.Own
open Go.RowKit Go.Sort
set_option linter.unusedVariables false
set_option linter.unusedSimpArgs false

/-- What spec.DrawExecDo leaves. -/
def BoxRun' (w w' : World) (e : Ending) : Prop := ∃ gb bs a1 c1 xs a2 c2 ys v k, e = .returned (.tuple #[.slice (some ⟨gb, 0, none⟩) (List.length (α := P2) bs) 4, .agg #[.slice a1 (List.length (α := P2) xs) c1, .slice a2 (List.length (α := P2) ys) c2, .int .i64 v, .int .i64 k]]) ∧ bs.length ≤ 4 ∧ BoxAt w' gb 0 bs ∧ (∃ lo hi, RunS w' lo hi a1 c1 xs a2 c2 ys) ∧ Below w.heap.size w w'
set_option maxRecDepth 100000 in
set_option maxHeartbeats 4000000 in
theorem drawExecDo (a : Option Addr) (n c : Nat) (w : World) (h : Bytes w w.heap.size a n) (hc : n ≤ c) (hm : c ≤ maxLen) :
    Calls Try.prog 12 #[.slice a n c] w fun e w' => BoxRun' w w' e := by
  have HB : Hid (Bytes w w.heap.size a n) := h
  have HM : Hid (c ≤ maxLen) := hm
  clear h
  obtain ⟨W, hW⟩ : ∃ W, W = w.alloc (.cells #[.slice none 0 0, .slice none 0 0, .int .i64 0, .int .i64 0] 27) := ⟨_, rfl⟩
  have BW : Hid (Below w.heap.size w W) := by show Below _ _ _; rw [hW]; exact below_new _ _
  have SW : Hid (W.heap.size = w.heap.size + 1) := by show _ = _; rw [hW]; simp
  have ZA : Hid (Blk W w.heap.size #[.slice none 0 0, .slice none 0 0, .int .i64 0, .int .i64 0] 27) := by show Blk _ _ _ _; rw [hW]; exact Blk.new _ _ _
  have HW : Hid (W = _) := hW
  clear hW
  go_enter Try.func12, Try.ntmps12
  go_wp2_with fail
  rw [← HW.out]
  refine (l15Open a n c W (HB.out.belowE BW.out) hc HM.out).mono ?_
  rintro e w1 ⟨rfl, hR, hb⟩
  have B1 : Hid (Below W.heap.size W w1) := hb
  have R1 : Hid (Rd w1 W.heap.size (W.heap.size + 1) 0) := hR
  clear hR hb
  go_wp2_with fail
  refine (l3Run W.heap.size (W.heap.size + 1) 0 w1 R1.out (by omega)).mono ?_
  rintro e w2 hd
  obtain ⟨gb, bs, a1, c1, xs, a2, c2, ys, v, k, rfl, ⟨_, l4⟩, hrs, hat, _, _, _, hgb, _, hbar⟩ := hd.open
  have b12 : Below W.heap.size W w2 := B1.out.trans (hbar.below (Nat.le_refl _) B1.out.size)
  have GG : Hid (w.heap.size < w1.heap.size ∧ w.heap.size < gb) := ⟨by have := B1.out.size; have := SW.out; omega, by have := B1.out.size; have := SW.out; omega⟩
  have FIN : Hid (∀ W', Turned [w.heap.size] w2 W' → BoxRun' w W' (.returned (.tuple #[.slice (some ⟨gb, 0, none⟩) bs.length 4, .agg #[.slice a1 xs.length c1, .slice a2 ys.length c2, .int .i64 v, .int .i64 k]]))) := by
    intro W' ht
    have gg := GG.out
    have bw2 : Below w.heap.size w w2 := BW.out.trans (b12.mono BW.out.size)
    exact ⟨gb, bs, a1, c1, xs, a2, c2, ys, v, k, rfl, l4, hat.turned ht (by simp; omega), ⟨_, _, hrs.turned ht (fun x hx => by simp at hx; omega)⟩, bw2.trans (ht.below (fun x hx => by simp at hx; omega) bw2.size)⟩
  have ZA2 := ZA.out.keep b12
  obtain ⟨z0, z1, z2, z3⟩ := ZA2.cells4
  have fz := ZA2.frozen
  clear hrs hat hbar hd b12 hgb ZA2 HW
  go_wp2
  refine bodyPost_ret (v := .tuple #[.slice (some ⟨gb, 0, none⟩) bs.length 4, .agg #[.slice a1 xs.length c1, .slice a2 ys.length c2, .int .i64 v, .int .i64 k]]) (by simp [results, Try.results12, go_sem, z0, z1, z2, z3]) rfl ?_
  refine FIN.out _ ?_
  repeat (first | (with_reducible exact Turned.refl _ _) | (with_reducible refine Turned.set ?_ (by simp) _) | (with_reducible refine Turned.drew ?_) | (with_reducible refine Turned.drewN ?_ _))

theorem anyP_take_succ (f : P2 → Bool) {ys : List P2} {m : Nat} (h : m < ys.length) : (ys.take (m + 1)).any f = ((ys.take m).any f || f (ys.getD m (0, 0))) := by
  rw [List.take_succ_eq_append_getElem h, List.any_append]
  simp [List.getD, h]
theorem bothR_take (bs xs ys : List P2) (o : Nat) (h : o < xs.length) : bothR bs (xs.take (o + 1)) ys = (bothR bs (xs.take o) ys || ys.any (fun y => (xs.getD o (0, 0)).1 == y.1 && decide ((bs.getD (xs.getD o (0, 0)).1.toNat (0, 0)).1 < 1000000))) := by
  unfold bothR
  rw [anyP_take_succ _ h]

theorem neqBoxR (p1 p2 q1 q2 : Int) (w : World) : (binOp .neq 38 (.agg #[.int .i64 p1, .int .i64 p2]) (.agg #[.int .i64 q1, .int .i64 q2])).run Try.prog w = .ok (.bool (!(p1 == q1 && p2 == q2))) w := neqBox p1 p2 q1 q2 w

set_option maxRecDepth 100000 in
set_option maxHeartbeats 8000000 in
theorem lawExecDo2 (a : Option Addr) (n c : Nat) (w : World) (h : Bytes w w.heap.size a n) (hc : n ≤ c) (hm : c ≤ maxLen) :
    Calls Try.prog 3 #[.slice a n c] w fun e w' => e = .returned (.bool true) ∧ Below w.heap.size w w' := by
  have HB : Hid (Bytes w w.heap.size a n) := h
  have HM : Hid (c ≤ maxLen) := hm
  clear h
  unfold maxLen at hm
  by_cases hn : n ≤ 1048576
  · have hd : decide ((1048576 : Int) < (n : Int)) = false := by simp; omega
    go_enter Try.func3, Try.ntmps3
    go_wp2_with fail
    refine (drawExecDo a n c w HB.out hc HM.out).mono ?_
    rintro e w1 ⟨gb, bs, a1, c1, xs, a2, c2, ys, v, k, rfl, hbl, hat, ⟨lo, hi, hr⟩, hb1⟩
    obtain ⟨X, hX⟩ : ∃ W, W = w1.alloc (.cells #[Value.slice a1 xs.length c1, Value.slice a2 ys.length c2, Value.int IntKind.i64 v, Value.int IntKind.i64 k] 27) := ⟨_, rfl⟩
    have kX : Below w1.heap.size w1 X := by rw [hX]; exact below_new _ _
    have BX : Hid (Below w.heap.size w X) := hb1.trans (kX.mono hb1.size)
    have GX : Hid (Blk X w1.heap.size #[Value.slice a1 xs.length c1, Value.slice a2 ys.length c2, Value.int IntKind.i64 v, Value.int IntKind.i64 k] 27) := by show Blk _ _ _ _; rw [hX]; exact Blk.new _ _ _
    have RX : Hid (RunS X lo hi a1 c1 xs a2 c2 ys) := hr.below kX
    have AX : Hid (BoxAt X gb 0 bs) := hat.below kX
    have HX : Hid (X = _) := hX
    have lxs : xs.length ≤ 5 := hr.l1
    have lys : ys.length ≤ 5 := hr.l2
    clear hX kX hr hat hb1
    have ID : Hid (∀ W, Below X.heap.size X W → Calls Try.prog 13 #[.slice (some ⟨gb, 0, none⟩) bs.length 4, Value.agg #[Value.slice a1 xs.length c1, Value.slice a2 ys.length c2, Value.int IntKind.i64 v, Value.int IntKind.i64 k]] W fun e w' => ∃ ad cap, e = .returned (.slice ad (execDo bs xs ys v k).length cap) ∧ (execDo bs xs ys v k).length ≤ cap ∧ OwnB w' W.heap.size ad (execDo bs xs ys v k) ∧ Below W.heap.size W w') := fun W hb => implExecDo _ 4 bs a1 a2 c1 c2 xs ys v k W (.inr ⟨gb, 0, rfl, AX.out.below hb⟩) hbl (RX.out.below hb).s1 (RX.out.below hb).s2 (by omega) (by omega)
    have SD : Hid (∀ W, Below X.heap.size X W → Calls Try.prog 15 #[.slice (some ⟨gb, 0, none⟩) bs.length 4, Value.agg #[Value.slice a1 xs.length c1, Value.slice a2 ys.length c2, Value.int IntKind.i64 v, Value.int IntKind.i64 k]] W fun e w' => ∃ g cap, e = .returned (.slice (some ⟨g, 0, none⟩) (execDo bs xs ys v k).length cap) ∧ (execDo bs xs ys v k).length ≤ cap ∧ Sl w' (some ⟨g, 0, none⟩) (execDo bs xs ys v k) ∧ Below W.heap.size W w') := fun W hb => (specExecDoCap _ 4 bs a1 a2 c1 c2 xs ys v k W (.inr ⟨gb, 0, rfl, AX.out.below hb⟩) (by omega) (RX.out.below hb).s1 (RX.out.below hb).s2 (by omega) (by omega) RX.out.k1 RX.out.k2).mono (fun e w' ⟨g, cap, h1, h1', h2, _, _, h5⟩ => ⟨g, cap, h1, h1', h2, h5⟩)
    have IO : Hid (∀ W, Below X.heap.size X W → Calls Try.prog 16 #[Value.agg #[Value.slice a1 xs.length c1, Value.slice a2 ys.length c2, Value.int IntKind.i64 v, Value.int IntKind.i64 k]] W fun e w' => e = .returned (.bool (execOk xs ys v k)) ∧ Below W.heap.size W w') := fun W hb => implExecOk a1 a2 c1 c2 xs ys v k W (RX.out.below hb).s1 (RX.out.below hb).s2 (by omega) (by omega)
    have SO : Hid (∀ W, Below X.heap.size X W → Calls Try.prog 17 #[Value.agg #[Value.slice a1 xs.length c1, Value.slice a2 ys.length c2, Value.int IntKind.i64 v, Value.int IntKind.i64 k]] W fun e w' => e = .returned (.bool (execOk xs ys v k)) ∧ Below W.heap.size W w') := fun W hb => specExecOk a1 a2 c1 c2 xs ys v k W (RX.out.below hb).s1 (RX.out.below hb).s2 (by omega) (by omega) RX.out.k1 RX.out.k2
    have IF : Hid (∀ W, Below X.heap.size X W → Calls Try.prog 18 #[.slice (some ⟨gb, 0, none⟩) bs.length 4, Value.agg #[Value.slice a1 xs.length c1, Value.slice a2 ys.length c2, Value.int IntKind.i64 v, Value.int IntKind.i64 k]] W fun e w' => e = .returned (.bool (execFresh bs xs ys v k)) ∧ Below W.heap.size W w') := fun W hb => implExecFresh _ 4 bs a1 a2 c1 c2 xs ys v k W (.inr ⟨gb, 0, rfl, AX.out.below hb⟩) hbl (RX.out.below hb).s1 (RX.out.below hb).s2 (by omega) (by omega)
    have SF : Hid (∀ W, Below X.heap.size X W → Calls Try.prog 19 #[.slice (some ⟨gb, 0, none⟩) bs.length 4, Value.agg #[Value.slice a1 xs.length c1, Value.slice a2 ys.length c2, Value.int IntKind.i64 v, Value.int IntKind.i64 k]] W fun e w' => e = .returned (.bool (execFresh bs xs ys v k)) ∧ Below W.heap.size W w') := fun W hb => specExecFresh _ 4 bs a1 a2 c1 c2 xs ys v k W (.inr ⟨gb, 0, rfl, AX.out.below hb⟩) (by omega) (RX.out.below hb).s1 (RX.out.below hb).s2 (by omega) (by omega) RX.out.k1 RX.out.k2
    have DL : Hid ((execDo bs xs ys v k).length ≤ 4) := by show _ ≤ _; unfold execDo; split; (rw [doPuts_length]; exact hbl); simp
    have DN : Hid ((boxOk bs && execOk xs ys v k) = false → execDo bs xs ys v k = []) := fun h => by unfold execDo; rw [h]; rfl
    have DY : Hid ((boxOk bs && execOk xs ys v k) = true → execDo bs xs ys v k = doPuts bs ys) := fun h => by unfold execDo; rw [if_pos h]
    generalize execDo bs xs ys v k = D at ID SD DL DN DY
    obtain ⟨q0, q1, q2, q3⟩ := GX.out.cells4
    go_wp2_with fail
    rw [← HX.out]
    refine Calls.mono (ID.out X (Below.refl _ _)) ?_
    rintro e Y ⟨ad, cap, rfl, hcap, hown, hbY⟩
    have KY : Hid (Below X.heap.size X Y) := hbY
    have OY : Hid (OwnB Y X.heap.size ad D) := hown
    have CP : Hid (D.length ≤ cap) := hcap
    clear hown hbY hcap q0 q1 q2 q3 HX
    obtain ⟨q0, q1, q2, q3⟩ := (GX.out.keep KY.out).cells4
    have es : ∀ b : Bool, (b != b) = false := by simp
    -- what the six calls of region 5 leave
    have SSX : Hid (∀ w', Below Y.heap.size Y w' → w'.cell? ⟨w1.heap.size, 0, none⟩ = some (.slice a1 xs.length c1) ∧ w'.cell? ⟨w1.heap.size, 1, none⟩ = some (.slice a2 ys.length c2) ∧ w'.cell? ⟨w1.heap.size, 2, none⟩ = some (.int .i64 v) ∧ w'.cell? ⟨w1.heap.size, 3, none⟩ = some (.int .i64 k)) := fun w' hb => (GX.out.keep (KY.out.trans (hb.mono KY.out.size))).cells4
    have SDX : Hid (∀ u, Below Y.heap.size Y u → Calls Try.prog 15 #[.slice (some ⟨gb, 0, none⟩) bs.length 4, Value.agg #[Value.slice a1 xs.length c1, Value.slice a2 ys.length c2, Value.int IntKind.i64 v, Value.int IntKind.i64 k]] u fun e w' => ∃ g cap', e = .returned (.slice (some ⟨g, 0, none⟩) D.length cap') ∧ Hid (Sl w' (some ⟨g, 0, none⟩) D ∧ D.length ≤ cap' ∧ Below Y.heap.size Y w') ∧ w'.cell? ⟨w1.heap.size, 0, none⟩ = some (.slice a1 xs.length c1) ∧ w'.cell? ⟨w1.heap.size, 1, none⟩ = some (.slice a2 ys.length c2) ∧ w'.cell? ⟨w1.heap.size, 2, none⟩ = some (.int .i64 v) ∧ w'.cell? ⟨w1.heap.size, 3, none⟩ = some (.int .i64 k)) := fun u hu => by
      refine Calls.mono (SD.out u (KY.out.trans (hu.mono KY.out.size))) ?_
      rintro e w' ⟨g, cap', rfl, hc', hs, hb⟩
      exact ⟨g, cap', rfl, ⟨hs, hc', hu.trans (hb.mono hu.size)⟩, SSX.out _ (hu.trans (hb.mono hu.size))⟩
    have BSX : Hid (∀ g cap' u, Sl u (some ⟨g, 0, none⟩) D ∧ D.length ≤ cap' ∧ Below Y.heap.size Y u → Calls Try.prog 14 #[.slice ad D.length cap, .slice (some ⟨g, 0, none⟩) D.length cap'] u fun e w' => e = .returned (.bool true) ∧ Hid (Below Y.heap.size Y w') ∧ w'.cell? ⟨w1.heap.size, 0, none⟩ = some (.slice a1 xs.length c1) ∧ w'.cell? ⟨w1.heap.size, 1, none⟩ = some (.slice a2 ys.length c2) ∧ w'.cell? ⟨w1.heap.size, 2, none⟩ = some (.int .i64 v) ∧ w'.cell? ⟨w1.heap.size, 3, none⟩ = some (.int .i64 k)) := fun g cap' u ⟨hs, hc', hu⟩ => by
      have h := implSame ad (some ⟨g, 0, none⟩) cap cap' D D u (OY.out.below hu).sl hs CP.out hc' (by have := DL.out; omega)
      rw [show (D == D) = true by simp] at h
      refine h.mono ?_
      rintro e w' ⟨rfl, hb⟩
      exact ⟨rfl, hu.trans (hb.mono hu.size), SSX.out _ (hu.trans (hb.mono hu.size))⟩
    have IOX : Hid (∀ u, Below Y.heap.size Y u → Calls Try.prog 16 #[Value.agg #[Value.slice a1 xs.length c1, Value.slice a2 ys.length c2, Value.int IntKind.i64 v, Value.int IntKind.i64 k]] u fun e w' => e = .returned (.bool (execOk xs ys v k)) ∧ Hid (Below Y.heap.size Y w') ∧ w'.cell? ⟨w1.heap.size, 0, none⟩ = some (.slice a1 xs.length c1) ∧ w'.cell? ⟨w1.heap.size, 1, none⟩ = some (.slice a2 ys.length c2) ∧ w'.cell? ⟨w1.heap.size, 2, none⟩ = some (.int .i64 v) ∧ w'.cell? ⟨w1.heap.size, 3, none⟩ = some (.int .i64 k)) := fun u hu => by
      refine Calls.mono (IO.out u (KY.out.trans (hu.mono KY.out.size))) ?_
      rintro e w' ⟨rfl, hb⟩
      exact ⟨rfl, hu.trans (hb.mono hu.size), SSX.out _ (hu.trans (hb.mono hu.size))⟩
    have SOX : Hid (∀ u, Below Y.heap.size Y u → Calls Try.prog 17 #[Value.agg #[Value.slice a1 xs.length c1, Value.slice a2 ys.length c2, Value.int IntKind.i64 v, Value.int IntKind.i64 k]] u fun e w' => e = .returned (.bool (execOk xs ys v k)) ∧ Hid (Below Y.heap.size Y w') ∧ w'.cell? ⟨w1.heap.size, 0, none⟩ = some (.slice a1 xs.length c1) ∧ w'.cell? ⟨w1.heap.size, 1, none⟩ = some (.slice a2 ys.length c2) ∧ w'.cell? ⟨w1.heap.size, 2, none⟩ = some (.int .i64 v) ∧ w'.cell? ⟨w1.heap.size, 3, none⟩ = some (.int .i64 k)) := fun u hu => by
      refine Calls.mono (SO.out u (KY.out.trans (hu.mono KY.out.size))) ?_
      rintro e w' ⟨rfl, hb⟩
      exact ⟨rfl, hu.trans (hb.mono hu.size), SSX.out _ (hu.trans (hb.mono hu.size))⟩
    have IFX : Hid (∀ u, Below Y.heap.size Y u → Calls Try.prog 18 #[.slice (some ⟨gb, 0, none⟩) bs.length 4, Value.agg #[Value.slice a1 xs.length c1, Value.slice a2 ys.length c2, Value.int IntKind.i64 v, Value.int IntKind.i64 k]] u fun e w' => e = .returned (.bool (execFresh bs xs ys v k)) ∧ Hid (Below Y.heap.size Y w') ∧ w'.cell? ⟨w1.heap.size, 0, none⟩ = some (.slice a1 xs.length c1) ∧ w'.cell? ⟨w1.heap.size, 1, none⟩ = some (.slice a2 ys.length c2) ∧ w'.cell? ⟨w1.heap.size, 2, none⟩ = some (.int .i64 v) ∧ w'.cell? ⟨w1.heap.size, 3, none⟩ = some (.int .i64 k)) := fun u hu => by
      refine Calls.mono (IF.out u (KY.out.trans (hu.mono KY.out.size))) ?_
      rintro e w' ⟨rfl, hb⟩
      exact ⟨rfl, hu.trans (hb.mono hu.size), SSX.out _ (hu.trans (hb.mono hu.size))⟩
    have SFX : Hid (∀ u, Below Y.heap.size Y u → Calls Try.prog 19 #[.slice (some ⟨gb, 0, none⟩) bs.length 4, Value.agg #[Value.slice a1 xs.length c1, Value.slice a2 ys.length c2, Value.int IntKind.i64 v, Value.int IntKind.i64 k]] u fun e w' => e = .returned (.bool (execFresh bs xs ys v k)) ∧ Hid (Below Y.heap.size Y w') ∧ w'.cell? ⟨w1.heap.size, 0, none⟩ = some (.slice a1 xs.length c1) ∧ w'.cell? ⟨w1.heap.size, 1, none⟩ = some (.slice a2 ys.length c2) ∧ w'.cell? ⟨w1.heap.size, 2, none⟩ = some (.int .i64 v) ∧ w'.cell? ⟨w1.heap.size, 3, none⟩ = some (.int .i64 k)) := fun u hu => by
      refine Calls.mono (SF.out u (KY.out.trans (hu.mono KY.out.size))) ?_
      rintro e w' ⟨rfl, hb⟩
      exact ⟨rfl, hu.trans (hb.mono hu.size), SSX.out _ (hu.trans (hb.mono hu.size))⟩
    have BB : Hid (Below Y.heap.size Y Y) := Below.refl _ _
    have eo : (execOk xs ys v k != execOk xs ys v k) = false := by simp
    have ef : (execFresh bs xs ys v k != execFresh bs xs ys v k) = false := by simp
    have EF : Hid (execFresh bs xs ys v k = (boxOk bs && execOk xs ys v k && xs.all (freshAt bs))) := rfl
    have FB : Hid (boxOk bs = true → execOk xs ys v k = true → bothR bs xs ys = true → execFresh bs xs ys v k = true → execFresh (doPuts bs ys) xs ys v k = false) := both_stale
    have FP : Hid (execOk xs ys v k = true → okAll numOk ys = true ∧ okAll verOk xs = true) := fun h => ⟨execOk_puts h, execOk_reads h⟩
    go_upto_region 5 with fail
    go_cut [44] from 23 to 44 (fun x wx => x = .bool false ∧ Below Y.heap.size Y wx)
    case first =>
      generalize execOk xs ys v k = eo' at IOX SOX eo
      generalize execFresh bs xs ys v k = ef' at IFX SFX ef
      go_region_held3 (fun w' : World => w'.cell? ⟨w1.heap.size, 0, none⟩ = some (.slice a1 xs.length c1) ∧ w'.cell? ⟨w1.heap.size, 1, none⟩ = some (.slice a2 ys.length c2) ∧ w'.cell? ⟨w1.heap.size, 2, none⟩ = some (.int .i64 v) ∧ w'.cell? ⟨w1.heap.size, 3, none⟩ = some (.int .i64 k)) (first | assumption | go_keep) (first | (go_at_call 15; refine Calls.mono (SDX.out _ (below_drewN BB.out 1)) ?_; rintro e w6 ⟨g6, cap6, rfl, H6, hSw6⟩) | (go_at_call 14; refine Calls.mono (BSX.out _ _ _ H6.out) ?_; rintro e w7 ⟨rfl, H7, hSw7⟩) | (go_at_call 16; refine Calls.mono (IOX.out _ H9.out) ?_; rintro e w8 ⟨rfl, H8, hSw8⟩) | (go_at_call 16; refine Calls.mono (IOX.out _ H7.out) ?_; rintro e w8 ⟨rfl, H8, hSw8⟩) | (go_at_call 17; refine Calls.mono (SOX.out _ H8.out) ?_; rintro e w9 ⟨rfl, H9, hSw9⟩) | (go_at_call 17; refine Calls.mono (SOX.out _ H7.out) ?_; rintro e w9 ⟨rfl, H9, hSw9⟩) | (go_at_call 18; refine Calls.mono (IFX.out _ H11.out) ?_; rintro e w10 ⟨rfl, H10, hSw10⟩) | (go_at_call 18; refine Calls.mono (IFX.out _ H9.out) ?_; rintro e w10 ⟨rfl, H10, hSw10⟩) | (go_at_call 18; refine Calls.mono (IFX.out _ H8.out) ?_; rintro e w10 ⟨rfl, H10, hSw10⟩) | (go_at_call 19; refine Calls.mono (SFX.out _ H10.out) ?_; rintro e w11 ⟨rfl, H11, hSw11⟩) | (go_at_call 19; refine Calls.mono (SFX.out _ H9.out) ?_; rintro e w11 ⟨rfl, H11, hSw11⟩) | (go_at_call 19; refine Calls.mono (SFX.out _ H8.out) ?_; rintro e w11 ⟨rfl, H11, hSw11⟩))
      all_goals
        go_wp2_with fail
        go_meet
        first | exact ⟨rfl, H11.out⟩ | exact ⟨rfl, H10.out⟩
    case rest =>
      rename World => V
      obtain ⟨rfl, hB⟩ := hcut
      have KV : Hid (Below Y.heap.size Y V) := hB
      have KXV : Hid (Below X.heap.size X V) := KY.out.trans (hB.mono KY.out.size)
      have BV : Hid (Below w.heap.size w V) := BX.out.trans (KXV.out.mono BX.out.size)
      clear hB q0 q1 q2 q3 SDX BSX IOX SOX IFX SFX SSX eo ef BB es ID SD SF IO
      have EXV := SO.out V KXV.out
      generalize hbo : boxOk bs = bo at DN DY EF FB
      go_wp2_with fail
      refine (specOk (some ⟨gb, 0, none⟩) 4 bs V (.inr ⟨gb, 0, rfl, AX.out.below KXV.out⟩) (by omega)).mono ?_
      rintro e w5 ⟨rfl, hw⟩
      subst hw
      have HEX : Hid _ := EXV
      clear EXV
      cases bo with
      | false =>
        have DE : D = [] := DN.out rfl
        rw [hbo]
        subst DE
        go_wp2_with fail
        go_ret
        exact ⟨rfl, BV.out⟩
      | true =>
        have HBO : Hid (boxOk bs = true) := hbo
        rw [hbo]
        have L4 : Hid (bs.length = 4) := boxOk_len hbo
        clear hbo
        obtain ⟨q0, q1, q2, q3⟩ := (GX.out.keep KXV.out).cells4
        go_wp2_with fail
        refine Calls.mono HEX.out ?_
        rintro e V6 ⟨rfl, b6⟩
        have K6 : Hid (Below X.heap.size X V6) := KXV.out.trans (b6.mono KXV.out.size)
        have B6 : Hid (Below w.heap.size w V6) := BX.out.trans (K6.out.mono BX.out.size)
        have O6 : Hid (OwnB V6 X.heap.size ad D) := (OY.out.below KV.out).below b6
        clear b6 q0 q1 q2 q3 HEX
        generalize heo : execOk xs ys v k = eo at DN DY EF FB FP
        cases eo with
        | false =>
          have DE : D = [] := DN.out rfl
          subst DE
          go_wp2_with fail
          go_ret
          exact ⟨rfl, B6.out⟩
        | true =>
          have DE : Hid (D = doPuts bs ys) := DY.out rfl
          have OP := FP.out rfl
          have ON : Hid (okAll numOk ys = true) := OP.1
          have OV : Hid (okAll verOk xs = true) := OP.2
          have DL4 : Hid (D.length = 4) := by show _ = _; rw [DE.out, doPuts_length]; exact L4.out
          have AD : ∃ g, ad = some ⟨g, 0, none⟩ ∧ BoxAt V6 g 0 D := by
            rcases O6.out with h | ⟨g, e, _, h, _⟩
            · have := DL4.out; rw [h] at this; simp at this
            · exact ⟨g, e, h⟩
          obtain ⟨gd, rfl, hAD⟩ := AD
          have HAD : Hid (BoxAt V6 gd 0 D) := hAD
          have HEO : Hid (execOk xs ys v k = true) := heo
          have DOK : Hid (boxOk D = true) := by
            have := doPuts_ok HBO.out ON.out ys.length (Nat.le_refl _)
            rw [List.take_length] at this
            show _ = _; rw [DE.out]; exact this
          have AT : Hid (∀ (m q : Nat), m < ys.length → (ys.getD m (0, 0)).1 = (q : Int) → (D.getD q (0, 0)).1 = min 1000000 ((bs.getD q (0, 0)).1 + 1) ∧ (D.getD q (0, 0)).2 = (ys.getD m (0, 0)).2) := fun m q hm e => by
            have h := doPuts_at (bs := bs) L4.out ON.out hm
            rw [e, show ((q : Int)).toNat = q by simp, ← DE.out] at h
            rw [h]; exact ⟨rfl, rfl⟩
          have OT : Hid (∀ q : Nat, ys.any (fun p => p.1 == (q : Int)) = false → D.getD q (0, 0) = bs.getD q (0, 0)) := fun q h => by
            rw [DE.out]
            refine doPuts_other (fun p hp e => ?_)
            obtain ⟨m, hm, rfl⟩ := List.getElem_of_mem hp
            obtain ⟨j, hj, ej⟩ := okAll_box ON.out m hm
            rw [show ys.getD m (0, 0) = ys[m] by simp [List.getD, hm]] at ej
            rw [ej] at e
            simp at e
            subst e
            rw [List.any_eq_false] at h
            exact h _ hp (by simpa using ej)
          have VB : Hid (∀ q, q < 4 → 0 ≤ (bs.getD q (0, 0)).1 ∧ (bs.getD q (0, 0)).1 ≤ 1000000) := fun q hq => boxOk_ver HBO.out q hq
          have IFX : Hid (∀ W, Below X.heap.size X W → Calls Try.prog 18 #[.slice (some ⟨gb, 0, none⟩) bs.length 4, Value.agg #[Value.slice a1 xs.length c1, Value.slice a2 ys.length c2, Value.int IntKind.i64 v, Value.int IntKind.i64 k]] W fun e w' => e = .returned (.bool (execFresh bs xs ys v k)) ∧ Below W.heap.size W w') := IF
          have IFD : Hid (∀ W, Below V6.heap.size V6 W → Calls Try.prog 18 #[.slice (some ⟨gd, 0, none⟩) D.length cap, Value.agg #[Value.slice a1 xs.length c1, Value.slice a2 ys.length c2, Value.int IntKind.i64 v, Value.int IntKind.i64 k]] W fun e w' => e = .returned (.bool (execFresh D xs ys v k)) ∧ Below W.heap.size W w') := fun W hb => implExecFresh _ cap D a1 a2 c1 c2 xs ys v k W (.inr ⟨gd, 0, rfl, HAD.out.below hb⟩) CP.out (RX.out.below (K6.out.trans (hb.mono K6.out.size))).s1 (RX.out.below (K6.out.trans (hb.mono K6.out.size))).s2 (by omega) (by omega)
          have FBX : Hid (bothR bs xs ys = true → execFresh bs xs ys v k = true → execFresh D xs ys v k = false) := fun h1 h2 => by rw [DE.out]; exact FB.out (by first | trivial | rfl) (by first | trivial | rfl) h1 h2
          have nb := neqBox
          clear DN DY FP FB EF IF heo hAD OP SO KXV KV BV OY KY
          generalize execFresh bs xs ys v k = f1 at IFX FBX
          generalize execFresh D xs ys v k = f2 at IFD FBX
          have BT := fun (o : Nat) => bothR_take bs xs ys o
          have HBT : Hid (∀ o, o < xs.length → bothR bs (xs.take (o + 1)) ys = (bothR bs (xs.take o) ys || ys.any (fun y => (xs.getD o (0, 0)).1 == y.1 && decide ((bs.getD (xs.getD o (0, 0)).1.toNat (0, 0)).1 < 1000000)))) := BT
          clear BT
          go_wp2_with fail
          go_loopw [6] (fun i wr => ∃ q : Nat, q ≤ bs.length ∧ i = .int .i64 q ∧ Hid (Below V6.heap.size V6 wr)) (fun i _ => bs.length - (intOf i).toNat)
          case atStart => exact ⟨0, Nat.zero_le _, rfl, Below.refl _ _⟩
          case round =>
            obtain ⟨q, hq, rfl, KR⟩ := hrel
            by_cases hlt : q < bs.length
            · have hki : (q : Int) < (bs.length : Int) := by omega
              have q4 : q < 4 := by have := L4.out; omega
              have hkd : (q : Int) < (D.length : Int) := by have := DL4.out; omega
              have VQ := VB.out q q4
              have ATQ : Hid (∀ m, m < ys.length → (ys.getD m (0, 0)).1 = (q : Int) → (D.getD q (0, 0)).1 = min 1000000 ((bs.getD q (0, 0)).1 + 1) ∧ (D.getD q (0, 0)).2 = (ys.getD m (0, 0)).2) := fun m hm e => AT.out m q hm e
              have OTQ : Hid (ys.any (fun p => p.1 == (q : Int)) = false → (D.getD q (0, 0)).1 = (bs.getD q (0, 0)).1 ∧ (D.getD q (0, 0)).2 = (bs.getD q (0, 0)).2) := fun h => by rw [OT.out q h]; exact ⟨rfl, rfl⟩
              have CD : Hid (∀ W, Below V6.heap.size V6 W → (W.cell? ⟨gd, q * 2, none⟩ = some (.int .i64 (D.getD q (0, 0)).1) ∧ W.cell? ⟨gd, q * 2 + 1, none⟩ = some (.int .i64 (D.getD q (0, 0)).2)) ∧ W.cell? ⟨gb, q * 2, none⟩ = some (.int .i64 (bs.getD q (0, 0)).1) ∧ W.cell? ⟨gb, q * 2 + 1, none⟩ = some (.int .i64 (bs.getD q (0, 0)).2)) := fun W hb => by
                have h1 := (HAD.out.below hb).2 q (by rw [DL4.out]; exact q4)
                have h2 := (AX.out.below (K6.out.trans (hb.mono K6.out.size))).2 q hlt
                rw [Nat.zero_add] at h1 h2
                exact ⟨h1, h2⟩
              generalize (D.getD q (0, 0)).1 = dv at ATQ OTQ CD
              generalize (D.getD q (0, 0)).2 = dw at ATQ OTQ CD
              generalize (bs.getD q (0, 0)).1 = bv at ATQ OTQ CD VQ
              generalize (bs.getD q (0, 0)).2 = bw at OTQ CD
              go_wp2_with fail
              go_loopw [7, 8] (fun pt i wr => ∃ m : Nat, m ≤ ys.length ∧ i = .int .i64 m ∧ pt = .bool ((ys.take m).any (fun p => p.1 == (q : Int))) ∧ Hid (Below V6.heap.size V6 wr)) (fun _ i _ => ys.length - (intOf i).toNat)
              case atStart => exact ⟨0, Nat.zero_le _, rfl, by simp, KR⟩
              case round =>
                clear KR
                obtain ⟨m, hm, rfl, rfl, KR⟩ := hrel
                obtain ⟨r0, r1, r2, r3⟩ := (GX.out.keep (K6.out.trans (KR.out.mono K6.out.size))).cells4
                obtain ⟨⟨x0, x1⟩, y0, y1⟩ := CD.out _ KR.out
                by_cases hlm : m < ys.length
                · have hmi : (m : Int) < (ys.length : Int) := by omega
                  have NX : Hid ((ys.take (m + 1)).any (fun p => p.1 == (q : Int)) = ((ys.take m).any (fun p => p.1 == (q : Int)) || ((ys.getD m (0, 0)).1 == (q : Int)))) := anyP_take_succ _ hlm
                  rcases (RX.out.below (K6.out.trans (KR.out.mono K6.out.size))).s2 with hh | ⟨b', o', rfl, hh⟩
                  · rw [hh] at hlm; simp at hlm
                  obtain ⟨c0, c1⟩ := hh.2 m hlm
                  have AQ := ATQ.out m hlm
                  clear hh
                  generalize (ys.getD m (0, 0)).1 = yb at c0 NX AQ
                  generalize (ys.getD m (0, 0)).2 = yv at c1 AQ
                  generalize (ys.take m).any (fun p => p.1 == (q : Int)) = an at NX
                  by_cases hy : yb = (q : Int)
                  · have hyb : (yb == (q : Int)) = true := by simp [hy]
                    obtain ⟨e1, e2⟩ := AQ hy
                    have N2 : Hid ((ys.take (m + 1)).any (fun p => p.1 == (q : Int)) = true) := by show _ = _; rw [NX.out, hyb, Bool.or_true]
                    have f1 : (dw != yv) = false := by simp [e2]
                    have HE2 : Hid (dw = yv) := e2
                    by_cases hbv : bv < 1000000
                    · have f2 : (dv != bv + 1) = false := by rw [bne_eq_false_iff_eq]; omega
                      have H1 : Hid (dv = min 1000000 (bv + 1)) := e1
                      have H2 : Hid (yb = (q : Int)) := hy
                      clear e1 e2 hy AQ NX
                      go_wp2_with fail
                      go_quiet (fail)
                      go_wp2_with fail
                      go_roundw
                      case rel => exact ⟨m + 1, by omega, by go_num, by rw [N2.out], below_drewN KR.out _⟩
                      case measure => simp [intOf]; omega
                    · have f2 : (dv != bv + 1) = true := by rw [bne_iff_ne]; omega
                      have f3 : decide (bv < 1000000) = false := by simpa using hbv
                      have H1 : Hid (dv = min 1000000 (bv + 1)) := e1
                      have H2 : Hid (yb = (q : Int)) := hy
                      clear e1 e2 hy AQ NX
                      go_wp2_with fail
                      go_quiet (fail)
                      go_wp2_with fail
                      go_roundw
                      case rel => exact ⟨m + 1, by omega, by go_num, by rw [N2.out], below_drewN KR.out _⟩
                      case measure => simp [intOf]; omega
                  · have hyb : (yb == (q : Int)) = false := by simpa using hy
                    have N2 : Hid ((ys.take (m + 1)).any (fun p => p.1 == (q : Int)) = an) := by show _ = _; rw [NX.out, hyb, Bool.or_false]
                    clear AQ NX hy
                    go_wp2_with fail
                    go_roundw
                    case rel => exact ⟨m + 1, by omega, by go_num, by rw [N2.out], KR.out⟩
                    case measure => simp [intOf]; omega
                · have hmi : ¬ (m : Int) < (ys.length : Int) := by omega
                  have TL : Hid ((ys.take m).any (fun p => p.1 == (q : Int)) = ys.any (fun p => p.1 == (q : Int))) := by show _ = _; rw [List.take_of_length_le (by omega)]
                  rw [TL.out]
                  clear TL
                  generalize ys.any (fun p => p.1 == (q : Int)) = an at OTQ
                  cases an with
                  | true =>
                    go_wp2_with fail
                    go_quiet (fail)
                    go_wp2_with fail
                    go_roundw
                    case rel => exact ⟨q + 1, by omega, by go_num, below_drewN KR.out _⟩
                    case measure => simp [intOf]; omega
                  | false =>
                    obtain ⟨e1, e2⟩ := OTQ.out rfl
                    have f1 : (dv == bv) = true := by simp [e1]
                    have f2 : (dw == bw) = true := by simp [e2]
                    have H1 : Hid (dv = bv) := e1
                    have H2 : Hid (dw = bw) := e2
                    have nb1 := nb dv dw bv bw
                    rw [f1, f2] at nb1
                    clear e1 e2
                    go_wp2_with fail
                    go_quiet (fail)
                    go_wp2_with fail
                    go_roundw
                    case rel => exact ⟨q + 1, by omega, by go_num, below_drewN KR.out _⟩
                    case measure => simp [intOf]; omega
            · have hki : ¬ (q : Int) < (bs.length : Int) := by omega
              have KS : Hid (Below V6.heap.size V6 wr) := KR
              clear AT OT
              go_wp2_with fail
              go_loopw [9, 10] (fun bo i wr => ∃ o : Nat, o ≤ xs.length ∧ i = .int .i64 o ∧ bo = .bool (bothR bs (xs.take o) ys) ∧ Hid (Below V6.heap.size V6 wr)) (fun _ i _ => xs.length - (intOf i).toNat)
              case atStart => exact ⟨0, Nat.zero_le _, rfl, by simp [bothR], KS⟩
              case round =>
                clear KS KR
                obtain ⟨o, ho, rfl, rfl, KR⟩ := hrel
                obtain ⟨r0, r1, r2, r3⟩ := (GX.out.keep (K6.out.trans (KR.out.mono K6.out.size))).cells4
                by_cases hlo : o < xs.length
                · have hoi : (o : Int) < (xs.length : Int) := by omega
                  obtain ⟨j, hj, ej⟩ := okAll_box OV.out o hlo
                  have NB : Hid (bothR bs (xs.take (o + 1)) ys = (bothR bs (xs.take o) ys || ys.any (fun y => (j : Int) == y.1 && decide ((bs.getD j (0, 0)).1 < 1000000)))) := by
                    unfold Hid
                    have h := HBT.out o hlo
                    rw [ej, show ((j : Int)).toNat = j by simp] at h
                    exact h
                  rcases (RX.out.below K6.out).s1 with hh | ⟨b', o', rfl, hh⟩
                  · rw [hh] at hlo; simp at hlo
                  have CX : Hid (∀ W, Below V6.heap.size V6 W → W.cell? ⟨b', o' + o * 2, none⟩ = some (.int .i64 (j : Int)) ∧ W.cell? ⟨gb, j * 2, none⟩ = some (.int .i64 (bs.getD j (0, 0)).1)) := fun W hb => by
                    have h1 := ((hh.below hb).2 o hlo).1
                    rw [ej] at h1
                    have h2 := ((AX.out.below (K6.out.trans (hb.mono K6.out.size))).2 j (by rw [L4.out]; exact hj)).1
                    rw [Nat.zero_add] at h2
                    exact ⟨h1, h2⟩
                  have jl : (j : Int) < (bs.length : Int) := by rw [L4.out]; omega
                  clear hh ej
                  generalize (bs.getD j (0, 0)).1 = bv at CX NB
                  generalize bothR bs (xs.take o) ys = b0 at NB
                  go_wp2_with fail
                  go_loopw [9, 11] (fun bo i wr => ∃ m : Nat, m ≤ ys.length ∧ i = .int .i64 m ∧ bo = .bool (b0 || (ys.take m).any (fun y => (j : Int) == y.1 && decide (bv < 1000000))) ∧ Hid (Below V6.heap.size V6 wr)) (fun _ i _ => ys.length - (intOf i).toNat)
                  case atStart => exact ⟨0, Nat.zero_le _, rfl, by simp, KR⟩
                  case round =>
                    clear KR r0 r1 r2 r3
                    obtain ⟨m, hm, rfl, rfl, KR⟩ := hrel
                    obtain ⟨r0, r1, r2, r3⟩ := (GX.out.keep (K6.out.trans (KR.out.mono K6.out.size))).cells4
                    obtain ⟨x0, y0⟩ := CX.out _ KR.out
                    by_cases hlm : m < ys.length
                    · have hmi : (m : Int) < (ys.length : Int) := by omega
                      have NX : Hid ((ys.take (m + 1)).any (fun y => (j : Int) == y.1 && decide (bv < 1000000)) = ((ys.take m).any (fun y => (j : Int) == y.1 && decide (bv < 1000000)) || ((j : Int) == (ys.getD m (0, 0)).1 && decide (bv < 1000000)))) := anyP_take_succ (fun y : P2 => (j : Int) == y.1 && decide (bv < 1000000)) hlm
                      rcases (RX.out.below (K6.out.trans (KR.out.mono K6.out.size))).s2 with hh | ⟨b2, o2, rfl, hh⟩
                      · rw [hh] at hlm; simp at hlm
                      have c0 := (hh.2 m hlm).1
                      clear hh
                      generalize (ys.getD m (0, 0)).1 = yb at c0 NX
                      generalize (ys.take m).any (fun y => (j : Int) == y.1 && decide (bv < 1000000)) = an at NX ⊢
                      cases hb0 : (b0 || an) with
                      | true =>
                        have N2 : Hid (true = (b0 || (ys.take (m + 1)).any (fun y => (j : Int) == y.1 && decide (bv < 1000000)))) := by
                          show _ = _; rw [NX.out, ← Bool.or_assoc, hb0]; rfl
                        go_wp2_with fail
                        go_quiet (fail)
                        go_wp2_with fail
                        go_roundw
                        case rel => exact ⟨m + 1, by omega, by go_num, by rw [← N2.out], below_drewN KR.out _⟩
                        case measure => simp [intOf]; omega
                      | false =>
                        cases hyb : ((j : Int) == yb) with
                        | false =>
                          have N2 : Hid (false = (b0 || (ys.take (m + 1)).any (fun y => (j : Int) == y.1 && decide (bv < 1000000)))) := by
                            show _ = _; rw [NX.out, ← Bool.or_assoc, hb0, hyb]; rfl
                          go_wp2_with fail
                          go_quiet (fail)
                          go_wp2_with fail
                          go_roundw
                          case rel => exact ⟨m + 1, by omega, by go_num, by rw [← N2.out], below_drewN KR.out _⟩
                          case measure => simp [intOf]; omega
                        | true =>
                          have N2 : Hid (decide (bv < 1000000) = (b0 || (ys.take (m + 1)).any (fun y => (j : Int) == y.1 && decide (bv < 1000000)))) := by
                            show _ = _; rw [NX.out, ← Bool.or_assoc, hb0, hyb]; rfl
                          go_wp2_with fail
                          go_quiet (fail)
                          go_wp2_with fail
                          go_roundw
                          case rel => exact ⟨m + 1, by omega, by go_num, by rw [← N2.out], below_drewN KR.out _⟩
                          case measure => simp [intOf]; omega
                    · have hmi : ¬ (m : Int) < (ys.length : Int) := by omega
                      have TL : Hid ((b0 || (ys.take m).any (fun y => (j : Int) == y.1 && decide (bv < 1000000))) = bothR bs (xs.take (o + 1)) ys) := by show _ = _; rw [List.take_of_length_le (by omega), NB.out]
                      rw [TL.out]
                      clear TL
                      go_wp2_with fail
                      go_roundw
                      case rel => exact ⟨o + 1, by omega, by go_num, rfl, KR.out⟩
                      case measure => simp [intOf]; omega
                · have hoi : ¬ (o : Int) < (xs.length : Int) := by omega
                  have TL : Hid (bothR bs (xs.take o) ys = bothR bs xs ys) := by show _ = _; rw [List.take_of_length_le (by omega)]
                  rw [TL.out]
                  clear TL
                  generalize bothR bs xs ys = bo at FBX
                  have CO := implOk (some ⟨gd, 0, none⟩) cap D wr (.inr ⟨gd, 0, rfl, HAD.out.below KR.out⟩) CP.out
                  rw [DOK.out] at CO
                  have HCO : Hid _ := CO
                  clear CO
                  go_wp2_with fail
                  refine Calls.mono HCO.out ?_
                  rintro e z1 ⟨rfl, d1⟩
                  have K1 : Hid (Below V6.heap.size V6 z1) := KR.out.trans (d1.mono KR.out.size)
                  clear d1 r0 r1 r2 r3
                  obtain ⟨r0, r1, r2, r3⟩ := (GX.out.keep (K6.out.trans (K1.out.mono K6.out.size))).cells4
                  cases bo with
                  | false =>
                    have BZ : Hid (Below w.heap.size w z1) := B6.out.trans (K1.out.mono B6.out.size)
                    go_wp2_with fail
                    go_ret
                    exact ⟨rfl, BZ.out⟩
                  | true =>
                    go_wp2_with fail
                    refine Calls.mono (IFX.out _ (K6.out.trans (K1.out.mono K6.out.size))) ?_
                    rintro e z2 ⟨rfl, d2⟩
                    have K2 : Hid (Below V6.heap.size V6 z2) := K1.out.trans (d2.mono K1.out.size)
                    clear d2 r0 r1 r2 r3
                    obtain ⟨r0, r1, r2, r3⟩ := (GX.out.keep (K6.out.trans (K2.out.mono K6.out.size))).cells4
                    cases f1 with
                    | false =>
                      have BZ : Hid (Below w.heap.size w z2) := B6.out.trans (K2.out.mono B6.out.size)
                      go_wp2_with fail
                      go_ret
                      exact ⟨rfl, BZ.out⟩
                    | true =>
                      have f20 : f2 = false := FBX.out (by first | trivial | rfl) (by first | trivial | rfl)
                      subst f20
                      go_wp2_with fail
                      refine Calls.mono (IFD.out _ K2.out) ?_
                      rintro e z3 ⟨rfl, d3⟩
                      have BZ : Hid (Below w.heap.size w z3) := B6.out.trans ((K2.out.trans (d3.mono K2.out.size)).mono B6.out.size)
                      clear d3
                      go_wp2_with fail
                      go_ret
                      exact ⟨rfl, BZ.out⟩
  · have hd : decide ((1048576 : Int) < (n : Int)) = true := by simp; omega
    go_enter Try.func3, Try.ntmps3
    go_wp2_with fail
    go_ret
    exact ⟨rfl, Below.refl _ _⟩
end Go.Proofs.Ytgcencilgpilaaa.Own
