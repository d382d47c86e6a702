/-
  Own texts, bundled: OwnE, SpecPut.
-/
import Derived.Test.YtbecdihfopjlhaaGreatDoorPk9
import Derived.OwnWalk
import Derived.Test.YtbecdihfopjlhaaGreatDoorPk8
import Derived.Test.YtbecdihfopjlhaaGreatDoorPk1
import Derived.Deep.AppendLies
import Derived.BigQuiet
import Derived.Deep.Cut
namespace Go.Proofs.YtbecdihfopjlhaaGreatDoor.Own
open Go.RowKit
set_option linter.unusedVariables false
set_option linter.unusedSimpArgs false

/-- v is a slice of the requests xs, its memory from B on its own. -/
def OwnE (w : World) (B : Nat) (v : Value) (xs : List Q4) : Prop := w.ownsRow B 94 4 v xs.length (flat4 xs)

theorem OwnE.keep {w w' : World} {B : Nat} {v : Value} {xs : List Q4} (h : OwnE w B v xs) (hb : Below w.heap.size w w') : OwnE w' B v xs := by
  obtain ⟨h1, h2⟩ := h
  refine ⟨h1, ?_⟩
  rcases h2 with h2 | ⟨g, cap, cur, hv, hg, hh, r⟩
  · exact .inl h2
  · exact .inr ⟨g, cap, cur, hv, hg, by rw [hb.block g (Array.getElem?_eq_some_iff.1 hh).1]; exact hh, r⟩
theorem OwnE.bar {w w' : World} {B rb : Nat} {v : Value} {xs : List Q4} (h : OwnE w B v xs) (hb : Bar rb w w') (hr : w.heap.size ≤ rb) : OwnE w' B v xs := by
  obtain ⟨h1, h2⟩ := h
  refine ⟨h1, ?_⟩
  rcases h2 with h2 | ⟨g, cap, cur, hv, hg, hh, r⟩
  · exact .inl h2
  · have := (Array.getElem?_eq_some_iff.1 hh).1
    exact .inr ⟨g, cap, cur, hv, hg, by rw [hb.block g this (by omega)]; exact hh, r⟩
theorem OwnE.lower {w : World} {B B' : Nat} {v : Value} {xs : List Q4} (h : OwnE w B v xs) (hB : B' ≤ B) : OwnE w B' v xs := by
  obtain ⟨h1, h2⟩ := h
  refine ⟨h1, ?_⟩
  rcases h2 with h2 | ⟨g, cap, cur, hv, hg, r⟩
  · exact .inl h2
  · exact .inr ⟨g, cap, cur, hv, Nat.le_trans hB hg, r⟩
theorem OwnE.open {w : World} {B : Nat} {v : Value} {xs : List Q4} (h : OwnE w B v xs) : ∃ a cap, v = .slice a xs.length cap ∧ Sl4 w a xs ∧ xs.length ≤ cap := by
  obtain ⟨h1, h2⟩ := h
  rcases h2 with ⟨hv, h0⟩ | ⟨g, cap, cur, hv, hg, hh, hmc, hml, hsz, htk⟩
  · refine ⟨none, 0, by rw [hv, h0], .inl (List.eq_nil_of_length_eq_zero h0), by omega⟩
  · refine ⟨some ⟨g, 0, none⟩, cap, hv, .inr ⟨g, 0, rfl, (Array.getElem?_eq_some_iff.1 hh).1, fun i hi => ?_⟩, hmc⟩
    have e := flat4_get xs i hi
    rw [← htk, List.getElem?_take_of_lt (by omega), List.getElem?_take_of_lt (by omega), List.getElem?_take_of_lt (by omega), List.getElem?_take_of_lt (by omega)] at e
    rw [cell_heap hh, cell_heap hh, cell_heap hh, cell_heap hh, Nat.zero_add]
    simpa using e

theorem four_newE (w : World) (a b c d : Value) : ∀ j x, [a, b, c, d][j]? = some x → (w.alloc (.cells #[a, b, c, d] 94)).cell? ((⟨w.heap.size, 0, none⟩ : Addr).add j) = some x := by
  intro j x hj
  match j, hj with
  | 0, hj => simp at hj; subst hj; simp [Addr.add]
  | 1, hj => simp at hj; subst hj; simp [Addr.add]
  | 2, hj => simp at hj; subst hj; simp [Addr.add]
  | 3, hj => simp at hj; subst hj; simp [Addr.add]

theorem infoDone : (Tryz.prog.info? 94).map (fun i => (i.zero, i.size, i.bytes)) = some (some (.agg #[.int .i64 0, .int .i64 0, .int .i64 0, .int .i64 0]), 4, 32) := by kernel_rfl

/-- Of the blocks that were there none but rb has turned, and the row's own one is not rb. -/
theorem OwnE.bar2 {w w' : World} {B rb : Nat} {v : Value} {xs : List Q4} (h : OwnE w B v xs) (hb : Bar rb w w') (hr : rb < B) : OwnE w' B v xs := by
  obtain ⟨h1, h2⟩ := h
  refine ⟨h1, ?_⟩
  rcases h2 with h2 | ⟨g, cap, cur, hv, hg, hh, r⟩
  · exact .inl h2
  · have := (Array.getElem?_eq_some_iff.1 hh).1
    exact .inr ⟨g, cap, cur, hv, hg, by rw [hb.block g this (by omega)]; exact hh, r⟩

end Go.Proofs.YtbecdihfopjlhaaGreatDoor.Own

namespace Go.Proofs.YtbecdihfopjlhaaGreatDoor.Own
open Go.RowKit
set_option linter.unusedVariables false
set_option linter.unusedSimpArgs false

theorem own_emptyE (w : World) (N : Nat) (hN : w.heap.size = N) : (w.alloc (.cells #[] 94)).ownsRow N 94 4 (.slice (some ⟨N, 0, none⟩) 0 0) 0 [] := by
  subst hN
  exact ⟨rfl, .inr ⟨w.heap.size, 0, #[], rfl, Nat.le_refl _, heap_new _ _, Nat.le_refl _, by unfold maxLen; omega, rfl, rfl⟩⟩
theorem OwnE.base {w : World} {B g cap n : Nat} {xs : List Q4} (h : OwnE w B (.slice (some ⟨g, 0, none⟩) n cap) xs) : B ≤ g := by
  obtain ⟨_, h2⟩ := h
  rcases h2 with ⟨hv, _⟩ | ⟨g', _, _, hv, hg, _⟩
  · cases hv
  · injection hv with e1; injection e1 with e1; injection e1 with e1; omega
/-- A request put behind a row of one's own. -/
theorem OwnE.snoc {w4 : World} {B g4 cap4 n : Nat} {xs : List Q4} {p q c v : Int} (hn : n = xs.length) (h : w4.ownsRow B 94 4 (.slice (some ⟨g4, 0, none⟩) (n + 1) cap4) (n + 1) (flat4 xs ++ [.int .i64 p, .int .i64 q, .int .i64 c, .int .i64 v])) : OwnE w4 B (.slice (some ⟨g4, 0, none⟩) (xs ++ [(p, q, c, v)]).length cap4) (xs ++ [(p, q, c, v)]) := by
  subst hn
  unfold OwnE
  rw [List.length_append, flat4_snoc]
  exact h

set_option maxRecDepth 100000 in
set_option maxHeartbeats 4000000 in
theorem specPut (a : Option Addr) (c : Nat) (ds : List Q4) (d0 d1 d2 d3 : Int) (w : World) (h : Sl4 w a ds) (hl : ds.length ≤ 1000) :
    Calls Tryz.prog 90 #[.slice a ds.length c, .agg #[.int .i64 d0, .int .i64 d1, .int .i64 d2, .int .i64 d3]] w fun e w' => ∃ g c', e = .returned (.slice (some ⟨g, 0, none⟩) (putD (d0, d1, d2, d3) ds).length c') ∧ OwnE w' w.heap.size (.slice (some ⟨g, 0, none⟩) (putD (d0, d1, d2, d3) ds).length c') (putD (d0, d1, d2, d3) ds) ∧ Below w.heap.size w w' := by
  obtain ⟨W, hW⟩ : ∃ W, W = w.alloc (.cells #[.int .i64 d0, .int .i64 d1, .int .i64 d2, .int .i64 d3] 94) := ⟨_, rfl⟩
  have bW : Below w.heap.size w W := by rw [hW]; exact (Below.refl _ _).alloc (Nat.le_refl _) _
  have BW : Hid (Below w.heap.size w W) := bW
  have PW : Hid (Blk W w.heap.size #[.int .i64 d0, .int .i64 d1, .int .i64 d2, .int .i64 d3] 94) := by show Blk _ _ _ _; rw [hW]; exact Blk.new _ _ _
  have S2 : Hid (Sl4 W a ds) := h.below bW
  have HW : Hid (W = _) := hW
  have PD : Hid (putD (d0, d1, d2, d3) ds = if (putGo (d0, d1, d2, d3) ds).2 then (putGo (d0, d1, d2, d3) ds).1 else (putGo (d0, d1, d2, d3) ds).1 ++ [(d0, d1, d2, d3)]) := rfl
  have LG := fun k : Nat => putGo_len (d0, d1, d2, d3) (ds.take k)
  obtain ⟨i0, hi, hz0, hz1, hz2⟩ := info_parts infoDone
  have I0 : Hid (Tryz.prog.info? 94 = some i0 ∧ i0.zero = some (.agg #[.int .i64 0, .int .i64 0, .int .i64 0, .int .i64 0]) ∧ i0.size = 4 ∧ i0.bytes = 32) := ⟨hi, hz0, hz1, hz2⟩
  obtain ⟨e0, e1, e2, e3⟩ := PW.out.cells4
  have HLG : Hid (∀ k, (putGo (d0, d1, d2, d3) (ds.take k)).1.length ≤ k + 1) := fun k => by
    have := LG k
    have h2 : (ds.take k).length ≤ k := by simp; omega
    omega
  clear h hW bW hi hz0 hz1 hz2 LG
  go_enter Tryz.func90, Tryz.ntmps90
  go_upto_region 1 with fail
  rw [← HW.out]
  go_wp2_with fail
  go_loopw [5, 6, 7] (fun v u i wr => ∃ (k g cap : Nat) (xs : List Q4) (bi : Bool), k ≤ ds.length ∧ i = .int .i64 k ∧ u = .bool bi ∧ v = .slice (some ⟨g, 0, none⟩) xs.length cap ∧ Hid ((xs, bi) = putGo (d0, d1, d2, d3) (ds.take k)) ∧ Hid (OwnE wr W.heap.size (.slice (some ⟨g, 0, none⟩) xs.length cap) xs) ∧ Hid (Below W.heap.size W wr)) (fun _ _ i _ => ds.length - (intOf i).toNat)
  case atStart => exact ⟨0, W.heap.size, 0, [], false, Nat.zero_le _, rfl, rfl, rfl, rfl, own_emptyE W W.heap.size rfl, below_new _ _⟩
  case round =>
    obtain ⟨k, g, cap, xs, bi, hk, rfl, rfl, rfl, PG, OW, BR⟩ := hrel
    clear e0 e1 e2 e3
    obtain ⟨e0, e1, e2, e3⟩ := (PW.out.keep BR.out).cells4
    have hxl : xs.length ≤ k + 1 := by have := HLG.out k; rw [← PG.out] at this; exact this
    by_cases hlt : k < ds.length
    · obtain ⟨b2, o2, rfl, a4⟩ : ∃ b2 o2, a = some ⟨b2, o2, none⟩ ∧ At4 wr b2 o2 ds := by
        rcases (S2.out.below BR.out) with h | h
        · rw [h] at hlt; simp at hlt
        · exact h
      have A4 : Hid (At4 wr b2 o2 ds) := a4
      have STEP : Hid (putGo (d0, d1, d2, d3) (ds.take (k + 1)) = putStep (d0, d1, d2, d3) (xs, bi) (ds.getD k q0)) := by
        show _ = _
        rw [PG.out]; exact putGo_succ _ hlt
      obtain ⟨f0, f1, f2, f3⟩ := a4.2 k hlt
      have FX0 : ∀ V, Below W.heap.size W V → At4 V b2 o2 ds := fun V hV => by
        rcases (S2.out.below hV) with h | ⟨b', o', e, h⟩
        · rw [h] at hlt; simp at hlt
        · injection e with e; injection e with e1 e2; subst e1 e2; exact h
      have FX : Hid (∀ V, Below W.heap.size W V → V.cell? ⟨b2, o2 + k * 4, none⟩ = some (.int .i64 (ds.getD k q0).1) ∧ V.cell? ⟨b2, o2 + k * 4 + 1, none⟩ = some (.int .i64 (ds.getD k q0).2.1) ∧ V.cell? ⟨b2, o2 + k * 4 + 2, none⟩ = some (.int .i64 (ds.getD k q0).2.2.1) ∧ V.cell? ⟨b2, o2 + k * 4 + 3, none⟩ = some (.int .i64 (ds.getD k q0).2.2.2)) := fun V hV => (FX0 V hV).2 k hlt
      clear FX0
      generalize ds.getD k q0 = x at STEP f0 f1 f2 f3 FX
      obtain ⟨x0, x1, x2, x3⟩ := x
      simp only at f0 f1 f2 f3
      clear a4
      have GE : W.heap.size ≤ wr.heap.size := BR.out.size
      obtain ⟨ys, bj, hs⟩ : ∃ ys bj, (ys, bj) = (if !bi && decide (d0 ≤ x0) then (xs ++ [(d0, d1, d2, d3)], true) else (xs, bi)) := ⟨_, _, rfl⟩
      have HS : Hid ((ys, bj) = (if !bi && decide (d0 ≤ x0) then (xs ++ [(d0, d1, d2, d3)], true) else (xs, bi))) := hs
      have YL : Hid (ys.length ≤ k + 2) := by
        show _ ≤ _
        have e := congrArg (fun s => s.1.length) hs
        simp only at e
        rw [e]
        split
        · simp; omega
        · show xs.length ≤ k + 2; omega
      have STEP2 : Hid (putGo (d0, d1, d2, d3) (ds.take (k + 1)) = if x0 = d0 then (ys, bj) else (ys ++ [(x0, x1, x2, x3)], bj)) := by
        show _ = _
        rw [STEP.out]
        simp only [putStep]
        by_cases c1 : (!bi && decide (d0 ≤ x0)) = true
        · rw [if_pos c1] at hs
          injection hs with h1 h2
          subst h1 h2
          rw [if_pos c1]
        · rw [if_neg c1] at hs
          injection hs with h1 h2
          subst h1 h2
          rw [if_neg c1]
      clear hs STEP PG
      go_upto_region 6 with fail
      cases bi with
      | true =>
        have SAME : Hid (ys = xs ∧ bj = true) := by
          have h := HS.out
          simp only [Bool.not_true, Bool.false_and, Bool.false_eq_true, if_false] at h
          injection h with h1 h2
          exact ⟨h1, h2⟩
        rw [SAME.out.1, SAME.out.2] at STEP2
        clear SAME HS YL
        go_quiet (fail)
        obtain ⟨V, hV⟩ : ∃ Z, Z = wr.drewN nq := ⟨_, rfl⟩
        have BV : Hid (Below W.heap.size W V) := by show Below _ _ _; rw [hV]; exact below_drewN BR.out _
        have OV : Hid (OwnE V W.heap.size (.slice (some ⟨g, 0, none⟩) xs.length cap) xs) := by show OwnE _ _ _ _; rw [hV]; exact OW.out
        rw [← hV]
        clear hV
        clear e0 e1 e2 e3 f0 f1 f2 f3
        obtain ⟨e0, e1, e2, e3⟩ := (PW.out.keep BV.out).cells4
        obtain ⟨f0, f1, f2, f3⟩ := FX.out V BV.out
        have GV : W.heap.size ≤ V.heap.size := BV.out.size
        go_upto_region 9 with fail
        by_cases hx : x0 = d0
        · have hd2 : (x0 != d0) = false := by simp [hx]
          have NX : Hid ((xs, true) = putGo (d0, d1, d2, d3) (ds.take (k + 1))) := by show _ = _; rw [STEP2.out, if_pos hx]
          clear hx STEP2
          go_quiet (fail)
          go_wp2_with fail
          go_roundw
          case rel => exact ⟨k + 1, g, cap, xs, true, by omega, by go_num, rfl, rfl, NX.out, OV.out, below_drewN BV.out _⟩
          case measure => simp [intOf]; omega
        · have hd2 : (x0 != d0) = true := by simp [hx]
          have NX : Hid ((xs ++ [(x0, x1, x2, x3)], true) = putGo (d0, d1, d2, d3) (ds.take (k + 1))) := by show _ = _; rw [STEP2.out, if_neg hx]
          clear hx STEP2
          go_quiet (fail)
          obtain ⟨U, hU⟩ : ∃ Z, Z = V.drewN nq := ⟨_, rfl⟩
          have BU : Hid (Below W.heap.size W U) := by show Below _ _ _; rw [hU]; exact below_drewN BV.out _
          have OU : Hid (OwnE U W.heap.size (.slice (some ⟨g, 0, none⟩) xs.length cap) (xs)) := by show OwnE _ _ _ _; rw [hU]; exact OV.out
          rw [← hU]
          clear hU
          clear e0 e1 e2 e3 f0 f1 f2 f3
          obtain ⟨e0, e1, e2, e3⟩ := (PW.out.keep BU.out).cells4
          obtain ⟨f0, f1, f2, f3⟩ := FX.out U BU.out
          have GU : W.heap.size ≤ U.heap.size := BU.out.size
          go_wp2_with (at_builtin; refine wpList_append_lies _ rfl (.tmp 43) (.tmp 48) 26 rfl W.heap.size 94 i0 (.agg #[.int .i64 0, .int .i64 0, .int .i64 0, .int .i64 0]) 4 32 Tryz.underlying26 I0.out.1 I0.out.2.1 I0.out.2.2.1 I0.out.2.2.2 rfl (by decide) (.slice (some ⟨g, 0, none⟩) xs.length cap) xs.length (flat4 (xs)) rfl (OwnE.keep OU.out (below_new _ _)) ⟨U.heap.size, 0, none⟩ 1 1 [.int .i64 x0, .int .i64 x1, .int .i64 x2, .int .i64 x3] rfl rfl (four_newE _ _ _ _ _) (by simp [Value.oneCell']) (by decide) (by unfold maxLen; omega) (by omega) (by rw [size_new]; omega) (U.heap.size + 1) (size_new _ _) ?_)
          intro g5 cap5 w5 hown5 hgr5 hloc5 hg5
          have O5 : Hid (OwnE w5 W.heap.size (.slice (some ⟨g5, 0, none⟩) (xs ++ [(x0, x1, x2, x3)]).length cap5) (xs ++ [(x0, x1, x2, x3)])) := OwnE.snoc rfl hown5
          have B5 : Hid (Below W.heap.size W w5) := (BU.out.alloc BU.out.size _).grown hgr5 (by rw [size_new]; omega) (fun x hx => by
            simp only [Value.ownBlock] at hx
            injection hx with hx
            have := OU.out.base
            omega)
          clear hown5 hgr5 hloc5 hg5
          go_wp2_with fail
          go_roundw
          case rel => exact ⟨k + 1, g5, cap5, xs ++ [(x0, x1, x2, x3)], true, by omega, by go_num, rfl, by simp, NX.out, O5.out, B5.out⟩
          case measure => simp [intOf]; omega
      | false =>
        cases hd : decide (d0 ≤ x0) with
        | false =>
          have SAME : Hid (ys = xs ∧ bj = false) := by
            have h := HS.out
            rw [hd] at h
            simp only [Bool.and_false, Bool.false_eq_true, if_false] at h
            injection h with h1 h2
            exact ⟨h1, h2⟩
          rw [SAME.out.1, SAME.out.2] at STEP2
          clear SAME HS YL
          go_quiet (fail)
          obtain ⟨V, hV⟩ : ∃ Z, Z = wr.drewN nq := ⟨_, rfl⟩
          have BV : Hid (Below W.heap.size W V) := by show Below _ _ _; rw [hV]; exact below_drewN BR.out _
          have OV : Hid (OwnE V W.heap.size (.slice (some ⟨g, 0, none⟩) xs.length cap) xs) := by show OwnE _ _ _ _; rw [hV]; exact OW.out
          rw [← hV]
          clear hV
          clear e0 e1 e2 e3 f0 f1 f2 f3
          obtain ⟨e0, e1, e2, e3⟩ := (PW.out.keep BV.out).cells4
          obtain ⟨f0, f1, f2, f3⟩ := FX.out V BV.out
          have GV : W.heap.size ≤ V.heap.size := BV.out.size
          go_upto_region 9 with fail
          by_cases hx : x0 = d0
          · have hd2 : (x0 != d0) = false := by simp [hx]
            have NX : Hid ((xs, false) = putGo (d0, d1, d2, d3) (ds.take (k + 1))) := by show _ = _; rw [STEP2.out, if_pos hx]
            clear hx STEP2
            go_quiet (fail)
            go_wp2_with fail
            go_roundw
            case rel => exact ⟨k + 1, g, cap, xs, false, by omega, by go_num, rfl, rfl, NX.out, OV.out, below_drewN BV.out _⟩
            case measure => simp [intOf]; omega
          · have hd2 : (x0 != d0) = true := by simp [hx]
            have NX : Hid ((xs ++ [(x0, x1, x2, x3)], false) = putGo (d0, d1, d2, d3) (ds.take (k + 1))) := by show _ = _; rw [STEP2.out, if_neg hx]
            clear hx STEP2
            go_quiet (fail)
            obtain ⟨U, hU⟩ : ∃ Z, Z = V.drewN nq := ⟨_, rfl⟩
            have BU : Hid (Below W.heap.size W U) := by show Below _ _ _; rw [hU]; exact below_drewN BV.out _
            have OU : Hid (OwnE U W.heap.size (.slice (some ⟨g, 0, none⟩) xs.length cap) (xs)) := by show OwnE _ _ _ _; rw [hU]; exact OV.out
            rw [← hU]
            clear hU
            clear e0 e1 e2 e3 f0 f1 f2 f3
            obtain ⟨e0, e1, e2, e3⟩ := (PW.out.keep BU.out).cells4
            obtain ⟨f0, f1, f2, f3⟩ := FX.out U BU.out
            have GU : W.heap.size ≤ U.heap.size := BU.out.size
            go_wp2_with (at_builtin; refine wpList_append_lies _ rfl (.tmp 43) (.tmp 48) 26 rfl W.heap.size 94 i0 (.agg #[.int .i64 0, .int .i64 0, .int .i64 0, .int .i64 0]) 4 32 Tryz.underlying26 I0.out.1 I0.out.2.1 I0.out.2.2.1 I0.out.2.2.2 rfl (by decide) (.slice (some ⟨g, 0, none⟩) xs.length cap) xs.length (flat4 (xs)) rfl (OwnE.keep OU.out (below_new _ _)) ⟨U.heap.size, 0, none⟩ 1 1 [.int .i64 x0, .int .i64 x1, .int .i64 x2, .int .i64 x3] rfl rfl (four_newE _ _ _ _ _) (by simp [Value.oneCell']) (by decide) (by unfold maxLen; omega) (by omega) (by rw [size_new]; omega) (U.heap.size + 1) (size_new _ _) ?_)
            intro g5 cap5 w5 hown5 hgr5 hloc5 hg5
            have O5 : Hid (OwnE w5 W.heap.size (.slice (some ⟨g5, 0, none⟩) (xs ++ [(x0, x1, x2, x3)]).length cap5) (xs ++ [(x0, x1, x2, x3)])) := OwnE.snoc rfl hown5
            have B5 : Hid (Below W.heap.size W w5) := (BU.out.alloc BU.out.size _).grown hgr5 (by rw [size_new]; omega) (fun x hx => by
              simp only [Value.ownBlock] at hx
              injection hx with hx
              have := OU.out.base
              omega)
            clear hown5 hgr5 hloc5 hg5
            go_wp2_with fail
            go_roundw
            case rel => exact ⟨k + 1, g5, cap5, xs ++ [(x0, x1, x2, x3)], false, by omega, by go_num, rfl, by simp, NX.out, O5.out, B5.out⟩
            case measure => simp [intOf]; omega
        | true =>
          have SAME : Hid (ys = xs ++ [(d0, d1, d2, d3)] ∧ bj = true) := by
            have h := HS.out
            rw [hd] at h
            simp only [Bool.not_false, Bool.and_self, if_true] at h
            injection h with h1 h2
            exact ⟨h1, h2⟩
          rw [SAME.out.1, SAME.out.2] at STEP2
          clear SAME HS YL
          go_quiet (fail)
          obtain ⟨V0, hV0⟩ : ∃ Z, Z = wr.drewN nq := ⟨_, rfl⟩
          have BV0 : Hid (Below W.heap.size W V0) := by show Below _ _ _; rw [hV0]; exact below_drewN BR.out _
          have OV0 : Hid (OwnE V0 W.heap.size (.slice (some ⟨g, 0, none⟩) xs.length cap) xs) := by show OwnE _ _ _ _; rw [hV0]; exact OW.out
          rw [← hV0]
          clear hV0
          clear e0 e1 e2 e3 f0 f1 f2 f3
          obtain ⟨e0, e1, e2, e3⟩ := (PW.out.keep BV0.out).cells4
          obtain ⟨f0, f1, f2, f3⟩ := FX.out V0 BV0.out
          have GV0 : W.heap.size ≤ V0.heap.size := BV0.out.size
          go_wp2_with (at_builtin; refine wpList_append_lies _ rfl (.tmp 29) (.tmp 31) 26 rfl W.heap.size 94 i0 (.agg #[.int .i64 0, .int .i64 0, .int .i64 0, .int .i64 0]) 4 32 Tryz.underlying26 I0.out.1 I0.out.2.1 I0.out.2.2.1 I0.out.2.2.2 rfl (by decide) (.slice (some ⟨g, 0, none⟩) xs.length cap) xs.length (flat4 xs) rfl (OwnE.keep OV0.out (below_new _ _)) ⟨V0.heap.size, 0, none⟩ 1 1 [.int .i64 d0, .int .i64 d1, .int .i64 d2, .int .i64 d3] rfl rfl (four_newE _ _ _ _ _) (by simp [Value.oneCell']) (by decide) (by unfold maxLen; omega) (by omega) (by rw [size_new]; omega) (V0.heap.size + 1) (size_new _ _) ?_)
          intro g4 cap4 V hown4 hgr hloc hg4
          have OV : Hid (OwnE V W.heap.size (.slice (some ⟨g4, 0, none⟩) (xs ++ [(d0, d1, d2, d3)]).length cap4) (xs ++ [(d0, d1, d2, d3)])) := OwnE.snoc rfl hown4
          have BV : Hid (Below W.heap.size W V) := (BV0.out.alloc BV0.out.size _).grown hgr (by rw [size_new]; omega) (fun x hx => by
            simp only [Value.ownBlock] at hx
            injection hx with hx
            have := OV0.out.base
            omega)
          clear hown4 hgr hloc hg4
          clear e0 e1 e2 e3 f0 f1 f2 f3
          obtain ⟨e0, e1, e2, e3⟩ := (PW.out.keep BV.out).cells4
          obtain ⟨f0, f1, f2, f3⟩ := FX.out V BV.out
          have GV : W.heap.size ≤ V.heap.size := BV.out.size
          go_upto_region 9 with fail
          by_cases hx : x0 = d0
          · have hd2 : (x0 != d0) = false := by simp [hx]
            have NX : Hid ((xs ++ [(d0, d1, d2, d3)], true) = putGo (d0, d1, d2, d3) (ds.take (k + 1))) := by show _ = _; rw [STEP2.out, if_pos hx]
            clear hx STEP2
            go_quiet (fail)
            go_wp2_with fail
            go_roundw
            case rel => exact ⟨k + 1, g4, cap4, xs ++ [(d0, d1, d2, d3)], true, by omega, by go_num, rfl, by simp, NX.out, OV.out, below_drewN BV.out _⟩
            case measure => simp [intOf]; omega
          · have hd2 : (x0 != d0) = true := by simp [hx]
            have NX : Hid ((xs ++ [(d0, d1, d2, d3)] ++ [(x0, x1, x2, x3)], true) = putGo (d0, d1, d2, d3) (ds.take (k + 1))) := by show _ = _; rw [STEP2.out, if_neg hx]
            clear hx STEP2
            go_quiet (fail)
            obtain ⟨U, hU⟩ : ∃ Z, Z = V.drewN nq := ⟨_, rfl⟩
            have BU : Hid (Below W.heap.size W U) := by show Below _ _ _; rw [hU]; exact below_drewN BV.out _
            have OU : Hid (OwnE U W.heap.size (.slice (some ⟨g4, 0, none⟩) (xs ++ [(d0, d1, d2, d3)]).length cap4) (xs ++ [(d0, d1, d2, d3)])) := by show OwnE _ _ _ _; rw [hU]; exact OV.out
            rw [← hU]
            clear hU
            clear e0 e1 e2 e3 f0 f1 f2 f3
            obtain ⟨e0, e1, e2, e3⟩ := (PW.out.keep BU.out).cells4
            obtain ⟨f0, f1, f2, f3⟩ := FX.out U BU.out
            have GU : W.heap.size ≤ U.heap.size := BU.out.size
            have hlen : (xs ++ [(d0, d1, d2, d3)]).length = xs.length + 1 := by simp
            go_wp2_with (at_builtin; refine wpList_append_lies _ rfl (.tmp 43) (.tmp 48) 26 rfl W.heap.size 94 i0 (.agg #[.int .i64 0, .int .i64 0, .int .i64 0, .int .i64 0]) 4 32 Tryz.underlying26 I0.out.1 I0.out.2.1 I0.out.2.2.1 I0.out.2.2.2 rfl (by decide) (.slice (some ⟨g4, 0, none⟩) (xs.length + 1) cap4) (xs.length + 1) (flat4 (xs ++ [(d0, d1, d2, d3)])) rfl (by have h := OwnE.keep OU.out (below_new U (.cells #[.int .i64 x0, .int .i64 x1, .int .i64 x2, .int .i64 x3] 94)); unfold OwnE at h; rw [hlen] at h; exact h) ⟨U.heap.size, 0, none⟩ 1 1 [.int .i64 x0, .int .i64 x1, .int .i64 x2, .int .i64 x3] rfl rfl (four_newE _ _ _ _ _) (by simp [Value.oneCell']) (by decide) (by unfold maxLen; omega) (by omega) (by rw [size_new]; omega) (U.heap.size + 1) (size_new _ _) ?_)
            intro g5 cap5 w5 hown5 hgr5 hloc5 hg5
            have O5 : Hid (OwnE w5 W.heap.size (.slice (some ⟨g5, 0, none⟩) (xs ++ [(d0, d1, d2, d3)] ++ [(x0, x1, x2, x3)]).length cap5) (xs ++ [(d0, d1, d2, d3)] ++ [(x0, x1, x2, x3)])) := OwnE.snoc (by simp) hown5
            have B5 : Hid (Below W.heap.size W w5) := (BU.out.alloc BU.out.size _).grown hgr5 (by rw [size_new]; omega) (fun x hx => by
              simp only [Value.ownBlock] at hx
              injection hx with hx
              have := OU.out.base
              omega)
            clear hown5 hgr5 hloc5 hg5
            go_wp2_with fail
            go_roundw
            case rel => exact ⟨k + 1, g5, cap5, xs ++ [(d0, d1, d2, d3)] ++ [(x0, x1, x2, x3)], true, by omega, by go_num, rfl, by simp, NX.out, O5.out, B5.out⟩
            case measure => simp [intOf]; omega
    · obtain rfl : k = ds.length := by omega
      rw [List.take_length] at PG
      have PDN := PD.out
      rw [← PG.out] at PDN
      simp only at PDN
      have HXL : xs.length ≤ ds.length + 1 := hxl
      cases bi with
      | true =>
        have E : Hid (putD (d0, d1, d2, d3) ds = xs) := by show _ = _; rw [PDN]; rfl
        clear PDN PD PG
        go_wp2_with fail
        go_ret
        rw [E.out]
        exact ⟨g, cap, rfl, OW.out.lower BW.out.size, BW.out.trans (BR.out.mono BW.out.size)⟩
      | false =>
        have E : Hid (putD (d0, d1, d2, d3) ds = xs ++ [(d0, d1, d2, d3)]) := by show _ = _; rw [PDN]; rfl
        clear PDN PD PG
        have GE : W.heap.size ≤ wr.heap.size := BR.out.size
        go_wp2_with (at_builtin; refine wpList_append_lies _ rfl (.tmp 52) (.tmp 54) 26 rfl W.heap.size 94 i0 (.agg #[.int .i64 0, .int .i64 0, .int .i64 0, .int .i64 0]) 4 32 Tryz.underlying26 I0.out.1 I0.out.2.1 I0.out.2.2.1 I0.out.2.2.2 rfl (by decide) (.slice (some ⟨g, 0, none⟩) xs.length cap) xs.length (flat4 xs) rfl (OwnE.keep OW.out (below_new _ _)) ⟨wr.heap.size, 0, none⟩ 1 1 [.int .i64 d0, .int .i64 d1, .int .i64 d2, .int .i64 d3] rfl rfl (four_newE _ _ _ _ _) (by simp [Value.oneCell']) (by decide) (by unfold maxLen; omega) (by omega) (by rw [size_new]; omega) (wr.heap.size + 1) (size_new _ _) ?_)
        intro g4 cap4 w4 hown4 hgr hloc hg4
        have OW4 : Hid (OwnE w4 W.heap.size (.slice (some ⟨g4, 0, none⟩) (xs ++ [(d0, d1, d2, d3)]).length cap4) (xs ++ [(d0, d1, d2, d3)])) := OwnE.snoc rfl hown4
        have B4 : Hid (Below W.heap.size W w4) := (BR.out.alloc BR.out.size _).grown hgr (by rw [size_new]; omega) (fun x hx => by
          simp only [Value.ownBlock] at hx
          injection hx with hx
          have := OW.out.base
          omega)
        clear hown4 hgr hloc hg4
        go_wp2_with fail
        go_ret
        rw [E.out]
        exact ⟨g4, cap4, by simp, OW4.out.lower BW.out.size, BW.out.trans (B4.out.mono BW.out.size)⟩
end Go.Proofs.YtbecdihfopjlhaaGreatDoor.Own
