/-
  Own text: what impl.boxesOf, impl.gather and impl.ProgLoads do: a range over a function.
-/
import Derived.Test.YtgcencilgpilaaaQTouchL
import Derived.RangeFuncBox
import Derived.RangeFuncLeaves
import Derived.RangeFuncCalls
import Derived.Shelf.Abstract
import Derived.WalkKit
import Derived.OwnWalkIn
import Derived.TacticsInMore
import Derived.LoopNIn
import Derived.LoopIn
import Derived.Maps.AppendAt
namespace Go.Proofs.Ytgcencilgpilaaa.Own
open Go.RowKit Go.Shelf
set_option linter.unusedVariables false
attribute [local go_sem] Oper.semAt_some

set_option maxRecDepth 100000 in
set_option maxHeartbeats 2000000 in
theorem boxes1L (n : Nat) (hn : 1 ≤ n) (l bd bl n₀ : Nat) (a : Option Addr) (c : Nat) (xs : List Q4) (hlen : xs.length ≤ 2 ^ 40) (J Jx : List Int → World → Prop) (B : Nat) (hJ : AbidesFrom B J)
    (hY : ∀ pre x W, J pre W → pre.length < 4 → YieldAt Fence.wide (n - 1) Try.prog l #[.int .i64 x] W fun e W' =>
      (e = .returned (.bool true) ∧ J (pre ++ [x]) W' ∧ Below n₀ W W') ∨ (e = .returned (.bool false) ∧ Jx (pre ++ [x]) W'))
    (W : World) (hbd : W.cell? ⟨bd, 0, none⟩ = some (.func (.func 152) #[] #[])) (hbl : W.cell? ⟨bl, 0, none⟩ = some (.slice a xs.length c)) (ld : bd < n₀) (ll : bl < n₀) (hn₀ : n₀ ≤ W.heap.size)
    (hS : Sl4b n₀ W a xs) (h0 : J [] W) :
    CallsIn Fence.wide n Try.prog 162 #[.func (.yield l) #[] #[], .pointer (some ⟨bd, 0, none⟩), .pointer (some ⟨bl, 0, none⟩)] W fun e W' => (∃ v, e = .returned v) ∧
      ((∃ ys, ys = boxesTo loadsQ xs 4 ∧ J ys W') ∨ (∃ pre, True ∧ Jx pre W')) := by
  have HJ : Hid (AbidesFrom B J) := hJ
  have HS : Hid (Sl4b n₀ W a xs) := hS
  have HBD : Hid (W.cell? ⟨bd, 0, none⟩ = some (.func (.func 152) #[] #[])) := hbd
  have HBL : Hid (W.cell? ⟨bl, 0, none⟩ = some (.slice a xs.length c)) := hbl
  have HY : Hid (∀ pre x W, J pre W → pre.length < 4 → YieldAt Fence.wide (n - 1) Try.prog l #[.int .i64 x] W fun e W' =>
      (e = .returned (.bool true) ∧ J (pre ++ [x]) W' ∧ Below n₀ W W') ∨ (e = .returned (.bool false) ∧ Jx (pre ++ [x]) W')) := hY
  clear hJ hS hbd hbl hY
  refine callsIn_of_wp Try.func162 rfl trivial ?_ rfl
  simp only [Try.ntmps162, List.size_toArray, List.length_cons, List.length_nil, Nat.reduceAdd, Nat.reduceSub, Array.replicate_succ, Array.replicate_zero, List.push_toArray, List.append_toArray, List.nil_append, List.cons_append]
  gi_wp2
  gi_loopw [6] (fun i wr => ∃ k : Nat, k ≤ 4 ∧ i = .int .i64 k ∧ Hid (J (boxesTo loadsQ xs k) wr) ∧ Hid (Below n₀ W wr)) (fun i _ => 4 - (intOf i).toNat)
  case atStart => exact ⟨0, Nat.zero_le _, rfl, h0, Below.refl _ _⟩
  case round =>
    obtain ⟨k, hk, rfl, HJs, HB⟩ := hrel
    by_cases hlt : k < 4
    · have hbl' : wr.cell? ⟨bl, 0, none⟩ = some (.slice a xs.length c) := by rw [HB.out.cell (p := ⟨bl, 0, none⟩) ll]; exact HBL.out
      have hws : n₀ ≤ wr.heap.size := Nat.le_trans hn₀ HB.out.size
      have hblt : bl < wr.heap.size := by omega
      have CC : Hid (∀ X : World, X = wr.alloc (.cells #[.int .i64 k] 3) → Calls Try.prog 164 #[.slice a xs.length c, .func (.func 163) #[] #[.pointer (some ⟨bd, 0, none⟩), .pointer (some ⟨wr.heap.size, 0, none⟩)]] X
          fun e w' => e = .returned (.bool (xs.any (fun p => loadsQ p (k : Int)))) ∧ Below X.heap.size X w') := by
        intro X hX
        have bX : Below n₀ W X := by rw [hX]; exact HB.out.alloc hws _
        have sX : X.heap.size = wr.heap.size + 1 := by rw [hX]; exact size_new _ _
        refine containsloads a c xs k bd wr.heap.size X (HS.out.below bX).sl hlen (by rw [bX.cell (p := ⟨bd, 0, none⟩) ld]; exact HBD.out) (by rw [hX, cell_heap (heap_new _ _)]; rfl) (by omega) (by omega)
      have NX : Hid (boxesTo loadsQ xs (k + 1) = boxesTo loadsQ xs k ++ (if xs.any (fun p => loadsQ p (k : Int)) then [(k : Int)] else [])) := rfl
      have hll : Hid ((boxesTo loadsQ xs k).length < 4) := Nat.lt_of_le_of_lt (boxesTo_len _ _ _) hlt
      generalize xs.any (fun p => loadsQ p (k : Int)) = r at CC NX
      cases r with
      | false =>
        have NX' : Hid (boxesTo loadsQ xs (k + 1) = boxesTo loadsQ xs k) := by show _ = _; rw [NX.out]; simp
        clear NX
        gi_wp2_with fail
        refine ⟨trivial, (callsIn_wide.2 (CC.out _ rfl)).mono ?_⟩
        rintro e w1 ⟨rfl, hb1⟩
        have G1 : Hid (wr.grownBy w1 none) := (World.grownBy_alloc wr _ none).trans (grownBy_of_below hb1)
        have J1 : Hid (J (boxesTo loadsQ xs k) w1) := HJ.out _ wr w1 none HJs.out G1.out (fun r e => by cases e)
        have B1 : Hid (Below n₀ W w1) := (HB.out.alloc hws _).trans (hb1.mono (by rw [size_new]; omega))
        clear hb1
        gi_wp2
        refine ⟨fun _ h => (by cases h), ?_⟩
        gi_wp2
        go_roundw
        case rel => exact ⟨k + 1, by omega, by go_num, by rw [NX'.out]; exact J1.out, B1.out⟩
        case measure => simp [intOf]; omega
      | true =>
        have NX' : Hid (boxesTo loadsQ xs (k + 1) = boxesTo loadsQ xs k ++ [(k : Int)]) := by show _ = _; rw [NX.out]; simp
        clear NX
        gi_wp2_with fail
        refine ⟨trivial, (callsIn_wide.2 (CC.out _ rfl)).mono ?_⟩
        rintro e w1 ⟨rfl, hb1⟩
        have G1 : Hid (wr.grownBy w1 none) := (World.grownBy_alloc wr _ none).trans (grownBy_of_below hb1)
        have J1 : Hid (J (boxesTo loadsQ xs k) w1) := HJ.out _ wr w1 none HJs.out G1.out (fun r e => by cases e)
        have B1 : Hid (Below n₀ W w1) := (HB.out.alloc hws _).trans (hb1.mono (by rw [size_new]; omega))
        have cbx : w1.cell? ⟨wr.heap.size, 0, none⟩ = some (.int .i64 k) := by
          rw [hb1.cell (p := ⟨wr.heap.size, 0, none⟩) (by show wr.heap.size < _; rw [size_new]; omega), cell_heap (heap_new _ _)]; rfl
        clear hb1
        obtain ⟨fn, tmps, assign, body, hy, hR⟩ := HY.out _ (k : Int) w1 J1.out hll.out
        have HR := hR
        gi_wp2
        refine HR.mono ?_
        rintro e W3 (⟨rfl, hJ3, hk3⟩ | ⟨rfl, hJx3⟩)
        · have J3 : Hid (J (boxesTo loadsQ xs k ++ [(k : Int)]) W3) := hJ3
          have B3 : Hid (Below n₀ W W3) := B1.out.trans hk3
          clear hJ3 hk3
          gi_wp2
          go_roundw
          case rel => exact ⟨k + 1, by omega, by go_num, by rw [NX'.out]; exact J3.out, B3.out⟩
          case measure => simp [intOf]; omega
        · have J3 : Hid (Jx (boxesTo loadsQ xs k ++ [(k : Int)]) W3) := hJx3
          clear hJx3
          gi_wp2
          refine bodyPost_ret (results_none rfl _ _ _) rfl ?_
          exact ⟨⟨_, rfl⟩, .inr ⟨_, trivial, J3.out⟩⟩
    · obtain rfl : k = 4 := by omega
      gi_wp2
      go_end0
      exact ⟨⟨_, rfl⟩, .inl ⟨_, rfl, HJs.out⟩⟩
end Go.Proofs.Ytgcencilgpilaaa.Own
