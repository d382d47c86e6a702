/-
  Own text: what impl.inOrder does: it yields programs, one behind the other.
-/
import Derived.Test.YtgcencilgpilaaaQSerMem
import Derived.RangeFuncBox
import Derived.RangeFuncLeaves
import Derived.RangeFuncCalls
import Derived.Shelf.Abstract
import Derived.WalkKit
import Derived.OwnWalkIn
import Derived.TacticsInMore
import Derived.LoopNIn
import Derived.LoopIn
import Derived.Maps.AppendAt
namespace Go.Proofs.Ytgcencilgpilaaa.Own
open Go.RowKit Go.Shelf
set_option linter.unusedVariables false
attribute [local go_sem] Oper.semAt_some

set_option maxRecDepth 100000 in
set_option maxHeartbeats 2000000 in
theorem inOrder1 (n : Nat) (hn : 1 ≤ n) (l bl n₀ : Nat) (L : List Nat) (a : Option Addr) (c : Nat) (ps : List PS) (hlen : ps.length ≤ 2 ^ 40) (J Jx : List Nat → World → Prop) (B : Nat) (hJ : AbidesFrom B J)
    (hY : ∀ pre x W, J pre W → pre.length < ps.length → YieldAt Fence.wide (n - 1) Try.prog l #[psV (ps.getD x p0)] W fun e W' =>
      (e = .returned (.bool true) ∧ J (pre ++ [x]) W' ∧ KeepBut n₀ L W W') ∨ (e = .returned (.bool false) ∧ Jx (pre ++ [x]) W'))
    (W : World) (hbl : W.cell? ⟨bl, 0, none⟩ = some (.slice a ps.length c)) (hS : SlPN n₀ L W a ps) (h0 : J [] W) :
    CallsIn Fence.wide n Try.prog 122 #[.func (.yield l) #[] #[], .pointer (some ⟨bl, 0, none⟩)] W fun e W' => (∃ v, e = .returned v) ∧
      ((∃ ys, ys = List.range ps.length ∧ J ys W') ∨ (∃ pre, (∃ k, k < ps.length ∧ pre = List.range (k + 1)) ∧ Jx pre W')) := by
  have HS : Hid (SlPN n₀ L W a ps) := hS
  have HY : Hid (∀ pre x W, J pre W → pre.length < ps.length → YieldAt Fence.wide (n - 1) Try.prog l #[psV (ps.getD x p0)] W fun e W' =>
      (e = .returned (.bool true) ∧ J (pre ++ [x]) W' ∧ KeepBut n₀ L W W') ∨ (e = .returned (.bool false) ∧ Jx (pre ++ [x]) W')) := hY
  clear hS hY hJ
  refine callsIn_of_wp Try.func122 rfl trivial ?_ rfl
  simp only [Try.ntmps122, List.size_toArray, List.length_cons, List.length_nil, Nat.reduceAdd, Nat.reduceSub, Array.replicate_succ, Array.replicate_zero, List.push_toArray, List.append_toArray, List.nil_append, List.cons_append]
  gi_wp2
  clear hbl
  gi_loopw [7] (fun i wr => ∃ k : Nat, k ≤ ps.length ∧ i = .int .i64 k ∧ Hid (J (List.range k) wr) ∧ Hid (KeepBut n₀ L W wr)) (fun i _ => ps.length - (intOf i).toNat)
  case atStart => exact ⟨0, Nat.zero_le _, rfl, h0, KeepBut.refl _ _ _⟩
  case round =>
    obtain ⟨k, hk, rfl, HJs, HB⟩ := hrel
    by_cases hlt : k < ps.length
    · rcases HS.out.keep HB.out with h | ⟨b, off, rfl, _, h⟩
      · rw [h] at hlt; simp at hlt
      have hc := (h k hlt).1
      have NX : Hid (List.range (k + 1) = List.range k ++ [k]) := List.range_succ
      have Y := HY.out (List.range k) k wr HJs.out (by simpa using hlt)
      have KK : Hid (k < ps.length) := hlt
      clear h
      unfold psV at hc Y
      generalize ps.getD k p0 = q at hc Y
      obtain ⟨pa, pc, px⟩ := q
      simp only at hc Y
      have hki : (k : Int) < (ps.length : Int) := by omega
      obtain ⟨fn, tmps, assign, body, hy, hR⟩ := Y
      have HR := hR
      gi_wp2
      refine HR.mono ?_
      rintro e W3 (⟨rfl, hJ3, hk3⟩ | ⟨rfl, hJx3⟩)
      · have J3 : Hid (J (List.range k ++ [k]) W3) := hJ3
        have B3 : Hid (KeepBut n₀ L W W3) := HB.out.trans hk3
        clear hJ3 hk3
        gi_wp2
        go_roundw
        case rel => exact ⟨k + 1, by omega, by go_num, by rw [NX.out]; exact J3.out, B3.out⟩
        case measure => simp [intOf]; omega
      · have J3 : Hid (Jx (List.range k ++ [k]) W3) := hJx3
        clear hJx3
        gi_wp2
        refine bodyPost_ret (results_none rfl _ _ _) rfl ?_
        exact ⟨⟨_, rfl⟩, .inr ⟨_, ⟨k, KK.out, NX.out.symm⟩, J3.out⟩⟩
    · obtain rfl : k = ps.length := by omega
      gi_wp2
      go_end0
      exact ⟨⟨_, rfl⟩, .inl ⟨_, rfl, HJs.out⟩⟩
end Go.Proofs.Ytgcencilgpilaaa.Own
