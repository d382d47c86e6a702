/-
  Own text: acceptors whose votes are a list of one's own: made, compared, marked, held.
-/
import Derived.Test.YtbbbfnfpmaogoaaToVoteR
import Derived.Test.YtbbbfnfpmaogoaaAccOps
namespace Go.Proofs.Ytbbbfnfpmaogoaa.Own
open Go.RowKit
set_option linter.unusedVariables false
set_option linter.unusedSimpArgs false

/-- Of the blocks that were there, none has turned but what lies from block B on and below block T. -/
structure OutG (B T : Nat) (w w' : World) : Prop where
  size : w.heap.size ≤ w'.heap.size
  os : w'.os = w.os
  tape : w'.tape = w.tape
  output : w'.output = w.output
  block : ∀ b, b < w.heap.size → (b < B ∨ T ≤ b) → w'.heap[b]? = w.heap[b]?
theorem OutG.below {B T C : Nat} {w w' : World} (h : OutG B T w w') (hC : C ≤ B) (hw : C ≤ w.heap.size) : Below C w w' := ⟨h.os, h.tape, h.output, h.size, fun k hk => h.block k (by omega) (.inl (by omega))⟩
theorem OwnR.outG {w w' : World} {B T B' T' : Nat} {v : Value} {L : List VM} (h : OwnR w B T v L) (o : OutG B' T' w w') (hd : T ≤ B' ∨ T' ≤ B) : OwnR w' B T v L :=
  h.keepIn o.size fun b h1 h2 => o.block b (by have := h.1; omega) (by omega)
theorem HeldR.outG {w w' : World} {B T B' T' : Nat} {v : Value} {k0 : Int} {L : List VM} (h : HeldR w B T v k0 L) (o : OutG B' T' w w') (hd : T ≤ B' ∨ T' ≤ B) : HeldR w' B T v k0 L :=
  h.keepIn o.size fun b h1 h2 => o.block b (by have := h.1; omega) (by omega)
theorem Blk.outG {w w' : World} {B T b : Nat} {C : Array Value} {t : TypeId} (h : Blk w b C t) (o : OutG B T w w') (hd : b < B ∨ T ≤ b) : Blk w' b C t := by
  unfold Blk; rw [o.block b h.lt hd]; exact h

theorem toAR (m : Int) (a : Option Addr) (c : Nat) (vs : List VM) (w : World) (h : SlV w a vs) (hn : vs.length ≤ 2 ^ 30) (hl : Short (2 ^ 30) (bodies vs)) :
    Calls Try.prog 21 #[.agg #[.int .i64 m, .slice a vs.length c]] w fun e w' => ∃ v L, e = .returned (.agg #[.int .i64 m, v]) ∧ OwnR w' w.heap.size w'.heap.size v L ∧ bodies L = bodies vs ∧ VLs L ∧ Below w.heap.size w w' := by
  refine (toAcc m a c vs w h (by omega) (fun i hi => by have := hl.vm i hi; omega)).mono ?_
  rintro e w' ⟨g, gs, rfl, hg, hc, hr, hb⟩
  exact ⟨_, vmsOf gs (bodies vs), rfl, OwnR.ofCopy hc hr hg (by rw [bodies_len]), vmsOf_bodies _ _, CopyV.vls (fun i hi => by have := hl i hi; omega), hb⟩
theorem eqAR (m : Int) (B T B' T' : Nat) (v u : Value) (L M : List VM) (w : World) (h1 : OwnR w B T v L) (h2 : OwnR w B' T' u M) (hb : bodies L = bodies M) (hn : L.length ≤ 2 ^ 40) (hl : VL0 L) :
    Calls Try.prog 23 #[.agg #[.int .i64 m, v], .agg #[.int .i64 m, u]] w fun e w' => e = .returned (.bool true) ∧ Below w.heap.size w w' := by
  obtain ⟨a, c, rfl, s1⟩ := h1.form
  obtain ⟨b, d, rfl, s2⟩ := h2.form
  exact eqAcc m a b c d L M w s1 s2 hb hn hl

set_option maxRecDepth 100000 in
set_option maxHeartbeats 800000 in
theorem markAR (m : Int) (B T : Nat) (v : Value) (L : List VM) (k0 : Int) (w : World) (h : OwnR w B T v L) (hn : L.length ≤ 2 ^ 30) (hk0 : 0 ≤ k0) (hk1 : k0 ≤ 2 ^ 30) (hs : stepsV L L.length ≤ 2 ^ 30) :
    Calls Try.prog 26 #[.agg #[.int .i64 m, v], .int .i64 k0] w fun e w' => e = .returned (.int .i64 (k0 + (stepsV L L.length : Nat))) ∧ HeldR w' B T v k0 L ∧ OutG B T w w' := by
  obtain ⟨a, c, rfl, _⟩ := h.form
  have H : Hid (OwnR w B T (.slice a L.length c) L) := h
  have HS : Hid (stepsV L L.length ≤ 2 ^ 30) := hs
  obtain ⟨W, hW⟩ : ∃ W, W = w.alloc (.cells #[.int .i64 m, .slice a L.length c] 24) := ⟨_, rfl⟩
  have BW : Hid (Below w.heap.size w W) := by show Below _ _ _; rw [hW]; exact (Below.refl _ _).alloc (Nat.le_refl _) _
  have HW : Hid (W = _) := hW
  have MC : Hid _ := markR B T _ L k0 W (H.out.keep BW.out) hn hk0 hk1 HS.out
  clear hW h hs
  generalize k0 + (stepsV L L.length : Nat) = kk at MC ⊢
  go_enter Try.func26, Try.ntmps26
  go_wp2_with fail
  rw [← HW.out]
  refine Calls.mono MC.out ?_
  rintro e w1 ⟨rfl, h1, o1⟩
  have F : Hid (HeldR w1 B T (.slice a L.length c) k0 L ∧ OutG B T w w1) := ⟨h1, by have := BW.out.size; rw [o1.size]; exact this, o1.os.trans BW.out.os, o1.tape.trans BW.out.tape, o1.output.trans BW.out.output, fun b hb hd => (o1.block b hd).trans (BW.out.block b hb)⟩
  clear h1 o1
  go_wp2_with fail
  go_ret
  exact ⟨rfl, F.out⟩

set_option maxRecDepth 100000 in
set_option maxHeartbeats 800000 in
theorem heldAR (m : Int) (B T : Nat) (v : Value) (L : List VM) (k0 : Int) (w : World) (h : HeldR w B T v k0 L) (hn : L.length ≤ 2 ^ 30) (hk0 : 0 ≤ k0) (hk1 : k0 ≤ 2 ^ 30) (hs : stepsV L L.length ≤ 2 ^ 30) :
    Calls Try.prog 27 #[.agg #[.int .i64 m, v], .int .i64 k0] w fun e w' => e = .returned (.int .i64 (k0 + (stepsV L L.length : Nat))) ∧ Below w.heap.size w w' := by
  obtain ⟨hT, a, c, rfl, hx⟩ := h
  have H : Hid (HeldR w B T (.slice a L.length c) k0 L) := ⟨hT, a, c, rfl, hx⟩
  have HS : Hid (stepsV L L.length ≤ 2 ^ 30) := hs
  obtain ⟨W, hW⟩ : ∃ W, W = w.alloc (.cells #[.int .i64 m, .slice a L.length c] 24) := ⟨_, rfl⟩
  have BW : Hid (Below w.heap.size w W) := by show Below _ _ _; rw [hW]; exact (Below.refl _ _).alloc (Nat.le_refl _) _
  have HW : Hid (W = _) := hW
  have MC : Hid _ := heldR B T _ L k0 W (H.out.keep BW.out) hn hk0 hk1 HS.out
  clear hW hx hs hT
  have kn : ¬ k0 + (stepsV L L.length : Nat) < 0 := by omega
  generalize k0 + (stepsV L L.length : Nat) = kk at MC kn ⊢
  go_enter Try.func27, Try.ntmps27
  go_wp2_with fail
  rw [← HW.out]
  refine Calls.mono MC.out ?_
  rintro e w1 ⟨rfl, h1⟩
  subst h1
  go_wp2_with fail
  go_ret
  exact ⟨rfl, BW.out⟩
end Go.Proofs.Ytbbbfnfpmaogoaa.Own
