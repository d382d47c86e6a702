/-
  Own text: what impl.progsOk does.
-/
import Derived.Test.YtgcencilgpilaaaQSerIter
import Derived.Test.YtgcencilgpilaaaPk7
import Derived.Test.YtgcencilgpilaaaPk2
import Derived.Deep.Cut
namespace Go.Proofs.Ytgcencilgpilaaa.Own
open Go.RowKit Go.Shelf
set_option linter.unusedVariables false
attribute [local go_sem] Oper.semAt_some

theorem belowBut_t {n : Nat} {L : List Nat} {A B C : World} (h : KeepBut n L A B) (k : KeepBut n L B C) : KeepBut n L A C := h.trans k
theorem belowBut_b {n : Nat} {L : List Nat} {w : World} (hn : n ≤ w.heap.size) (W : World) (l : Nat) (o o' : Obj) (hl : w.heap.size ≤ l) (hW : W.heap[l]? = some o) (h1 : o.isCells = false) (h2 : o.isWalk = false) : KeepBut n L W (W.putObj l o') := by
  have b := belowK_b (w := w) hn W l o o' hl hW h1 h2
  exact ⟨b.os, b.tape, b.output, b.size, fun k hk _ => b.block k hk⟩

/-- What impl.inOrder hands back. -/
theorem inOrderStops (n : Nat) (hn : 1 ≤ n) (bl n₀ : Nat) (L : List Nat) (a : Option Addr) (c : Nat) (ps : List PS) (hlen : ps.length ≤ 2 ^ 40) (w : World)
    (hbl : w.cell? ⟨bl, 0, none⟩ = some (.slice a ps.length c)) (ll : bl < w.heap.size) (hn₀ : n₀ ≤ w.heap.size) (hS : SlPN n₀ L w a ps) :
    SeqStopsK Fence.wide n Try.prog 122 #[.pointer (some ⟨bl, 0, none⟩)] (fun x : Nat => #[psV (ps.getD x p0)]) (KeepBut n₀ L) (fun ys => ys = List.range ps.length) (fun pre => ∃ k, k < ps.length ∧ pre = List.range (k + 1)) ps.length w := fun l J Jx W hW hJ _ hY h0 => by
  exact inOrder1 n hn l bl n₀ L a c ps hlen J Jx W.heap.size hJ hY W ((hW.cell (p := ⟨bl, 0, none⟩) ll).trans hbl) (hS.keep (KeepBut.ofBelow hW hn₀)) h0

set_option maxHeartbeats 1000000 in
theorem inOrderC (a : Option Addr) (n c : Nat) (w : World) :
    Calls Try.prog 83 #[.slice a n c] w fun e w' => e = .returned (.func (.func 122) #[] #[.pointer (some ⟨w.heap.size, 0, none⟩)]) ∧ w' = w.alloc (.cells #[.slice a n c] 45) := by
  go_enter Try.func83, Try.ntmps83
  go_wp2
  go_ret
  exact ⟨rfl, rfl⟩

theorem KeepBut.grown {n : Nat} {L : List Nat} {w X Y : World} {row : Option Nat} (h : KeepBut n L w X) (hg : X.grownBy Y row) (hn0 : n ≤ w.heap.size) (hr : ∀ r, row = some r → n ≤ r) : KeepBut n L w Y :=
  ⟨hg.os.trans h.os, hg.tape.trans h.tape, hg.output.trans h.output, Nat.le_trans h.size hg.size, fun k hk hn => by
    rw [hg.block k (Nat.lt_of_lt_of_le hk (Nat.le_trans hn0 h.size)) (fun e => by have := hr k e.symm; omega)]; exact h.block k hk hn⟩

def allProgs (ps : List PS) : Bool := decide (ps.length ≤ 100) && (progsOf ps).all progOk
theorem progsOf_range (ps : List PS) : progsOf ps = (List.range ps.length).map fun i => (ps.getD i p0).2.2 := by
  unfold progsOf
  apply List.ext_getElem
  · simp
  · intro i h1 h2
    simp at h1
    simp [List.getD, h1]
theorem allProgs_no {ps : List PS} {i : Nat} (hi : i < ps.length) (h : progOk (ps.getD i p0).2.2 = false) : allProgs ps = false := by
  unfold allProgs
  rw [progsOf_range]
  have : ((List.range ps.length).map fun i => (ps.getD i p0).2.2).all progOk = false := by
    rw [Bool.eq_false_iff]
    intro e
    rw [List.all_eq_true] at e
    have := e _ (List.mem_map.2 ⟨i, List.mem_range.2 hi, rfl⟩)
    rw [h] at this
    cases this
  rw [this, Bool.and_false]
theorem allProgs_yes {ps : List PS} (hl : ps.length ≤ 100) (h : ∀ i, i ∈ List.range ps.length → progOk (ps.getD i p0).2.2 = true) : allProgs ps = true := by
  unfold allProgs
  rw [progsOf_range]
  simp only [Bool.and_eq_true, decide_eq_true_eq, List.all_eq_true, List.mem_map]
  refine ⟨hl, ?_⟩
  rintro x ⟨i, hi, rfl⟩
  exact h i hi

theorem SlPN.at {n : Nat} {L : List Nat} {w : World} {a : Option Addr} {ps : List PS} (h : SlPN n L w a ps) (i : Nat) : Sl4 w (ps.getD i p0).1 (ps.getD i p0).2.2 ∧ (ps.getD i p0).2.2.length ≤ 2 ^ 40 := by
  by_cases hi : i < ps.length
  · rcases h with h | ⟨b, off, _, _, h⟩
    · rw [h] at hi; simp at hi
    · exact ⟨(h i hi).2.1.1, (h i hi).2.2⟩
  · rw [show ps.getD i p0 = p0 by simp [List.getD, List.getElem?_eq_none (by omega : ps.length ≤ i)]]
    exact ⟨.inl rfl, by simp [p0]⟩

set_option maxRecDepth 100000 in
set_option maxHeartbeats 4000000 in
theorem progsOkC (a : Option Addr) (c : Nat) (ps : List PS) (w : World) (h : SlP w a ps) (hlen : ps.length ≤ 2 ^ 40) :
    Calls Try.prog 82 #[.slice a ps.length c] w fun e w' => e = .returned (.bool (allProgs ps)) ∧ Below w.heap.size w w' := by
  have HS : Hid (SlP w a ps) := h
  clear h
  by_cases h100 : ps.length ≤ 100
  · have d100 : decide ((100 : Int) < (ps.length : Int)) = false := by simp; omega
    obtain ⟨W0, hW0⟩ : ∃ W, W = w.alloc (.cells #[.bool false] 4) := ⟨_, rfl⟩
    have B0 : Hid (Below w.heap.size w W0) := by show Below _ _ _; rw [hW0]; exact below_new _ _
    have S0 : Hid (W0.heap.size = w.heap.size + 1) := by show _ = _; rw [hW0]; simp
    have X0 : Hid (Boxed W0 w.heap.size 4 (.bool false)) := by show Boxed _ _ _ _; rw [hW0]; exact Boxed.new _ _ _
    obtain ⟨W1, hW1⟩ : ∃ W, W = W0.alloc (.cells #[.slice a ps.length c] 45) := ⟨_, rfl⟩
    have B1 : Hid (Below W0.heap.size W0 W1) := by show Below _ _ _; rw [hW1]; exact below_new _ _
    have S1 : Hid (W1.heap.size = w.heap.size + 2) := by show _ = _; rw [hW1]; simp [S0.out]
    have C1 : Hid (W1.cell? ⟨W0.heap.size, 0, none⟩ = some (.slice a ps.length c)) := by show _ = _; rw [hW1, cell_heap (heap_new _ _)]; rfl
    have K1 : Hid (Below w.heap.size w W1) := B0.out.trans (B1.out.mono B0.out.size)
    have X1 : Hid (Boxed W1 w.heap.size 4 (.bool false)) := X0.out.kept (grBelow (row := none) B1.out) (by simp)
    have HW0 : Hid (W0 = _) := hW0
    have HW1 : Hid (W1 = _) := hW1
    clear hW0 hW1
    refine (callsIn_wide (n := 3)).1 ?_
    have h1 : 1 ≤ 3 := by omega
    refine callsIn_of_wp_marks Try.func82 rfl trivial ?_ rfl
    simp only [Try.ntmps82, List.size_toArray, List.length_cons, List.length_nil, Nat.reduceAdd, Nat.reduceSub, Array.replicate_succ, Array.replicate_zero, List.push_toArray, List.append_toArray, List.nil_append, List.cons_append]
    gi_wp2_with fail
    rw [← HW0.out]
    refine ⟨trivial, (callsIn_wide.2 (inOrderC a ps.length c W0)).mono ?_⟩
    rintro e w1 ⟨rfl, hw⟩
    rw [← HW1.out] at hw
    subst hw
    gi_wp2_with fail
    have NR : Hid (SlPN w1.heap.size [w.heap.size] w1 a ps) := HS.out.near K1.out K1.out.size (fun x hx => by simp at hx; omega)
    have bl : W0.heap.size < w1.heap.size := by have := S0.out; have := S1.out; omega
    refine wpIn_rangeFunc_ownG (F := Fence.wide) rfl h1 (gf := 122) (lb := #[.pointer (some ⟨W0.heap.size, 0, none⟩)]) rfl trivial (enters_of Try.func122 (by kernel_rfl) rfl)
      (inOrderStops (3 - 1) (by omega) W0.heap.size w1.heap.size [w.heap.size] a c ps hlen w1 C1.out bl (Nat.le_refl _) NR.out) belowBut_t (belowBut_b (Nat.le_refl _)) (Below.refl _ _) (fun _ => rfl)
      (fun (pre : List Nat) W => Boxed W w.heap.size 4 (.bool false) ∧ KeepBut w1.heap.size [w.heap.size] w1 W ∧ ∀ i, i ∈ pre → progOk (ps.getD i p0).2.2 = true)
      (fun cc pre W => cc = .ret ∧ Boxed W w.heap.size 4 (.bool false) ∧ KeepBut w1.heap.size [w.heap.size] w1 W ∧ ∃ i, i ∈ pre ∧ progOk (ps.getD i p0).2.2 = false)
      (fun s X Y row hs hg hr => ⟨hs.1.kept hg (fun e => by have := (hr _ e.symm).1; have := S1.out; omega), hs.2.1.grown hg (Nat.le_refl _) (fun r e => (hr r e).1), hs.2.2⟩)
      (fun cc s X Y row hs hg hr => ⟨hs.1, hs.2.1.kept hg (fun e => by have := (hr _ e.symm).1; have := S1.out; omega), hs.2.2.1.grown hg (Nat.le_refl _) (fun r e => (hr r e).1), hs.2.2.2⟩)
      ⟨X1.out, KeepBut.refl _ _ _, fun i hi => by simp at hi⟩
      (fun x => { tmps := #[.slice a ps.length c, undef, .pointer (some ⟨w.heap.size, 0, none⟩), psV (ps.getD x p0), .slice a ps.length c, .int .i64 ps.length, .bool false, .slice a ps.length c, .func (.func 122) #[] #[.pointer (some ⟨W0.heap.size, 0, none⟩)], psV (ps.getD x p0), undef, undef, undef], defers := [] }) ?assign ?body ?done ?stop
    case assign =>
      intro l x W K hK
      gi_wp2
      exact hK
    case body =>
      rintro l pre x W ⟨hbx, hkp, hall⟩ hlt
      have HBX : Hid (Boxed W w.heap.size 4 (.bool false)) := hbx
      have HKP : Hid (KeepBut w1.heap.size [w.heap.size] w1 W) := hkp
      have HALL : Hid (∀ i, i ∈ pre → progOk (ps.getD i p0).2.2 = true) := hall
      have sz : Hid (w.heap.size < w1.heap.size ∧ w1.heap.size ≤ W.heap.size) := ⟨by have := S1.out; omega, hkp.size⟩
      have SL := (NR.out.keep hkp).at x
      have PX : Hid (∀ i, i ∈ pre ++ [x] → i ∈ pre ∨ i = x) := fun i hi => by simpa using hi
      have PY : Hid (x ∈ pre ++ [x]) := by show _ ∈ _; simp
      have PC : Hid (Calls Try.prog 86 #[psV (ps.getD x p0)] W fun e w' => e = .returned (.bool (progOk (ps.getD x p0).2.2)) ∧ Below W.heap.size W w') := implProgOk _ _ _ W SL.1 SL.2
      have QX : Hid (∃ q, q = ps.getD x p0) := ⟨_, rfl⟩
      clear hbx hkp hall SL
      unfold psV at PC ⊢
      obtain ⟨q, hq⟩ := QX.out
      have HQ : Hid (q = ps.getD x p0) := hq
      rw [← hq] at PC ⊢
      clear hq QX
      obtain ⟨pa, pc, px⟩ := q
      simp only at PC ⊢
      have HP : Hid (progOk (ps.getD x p0).2.2 = progOk px) := by show _ = _; rw [← HQ.out]
      cases hpo : progOk px with
      | true =>
        rw [hpo] at PC HP
        gi_wp2_with fail
        refine ⟨trivial, (CallsIn.inRound l (callsIn_wide.2 PC.out)).mono ?_⟩
        rintro e w2 ⟨rfl, hb⟩
        have K2 : Hid (Below W.heap.size W w2) := hb
        clear hb
        gi_wp2
        have gr : W.grownBy w2 none := grBelow K2.out
        refine ⟨KeepsFrom.of_grownBy gr (fun j e => by cases e), KeepBut.ofBelow K2.out sz.out.2, HBX.out.kept gr (by simp), HKP.out.trans (KeepBut.ofBelow K2.out sz.out.2), fun i hi => ?_⟩
        rcases PX.out i hi with h | h
        · exact HALL.out i h
        · rw [h]; exact HP.out
      | false =>
        rw [hpo] at PC HP
        gi_wp2_with fail
        refine ⟨trivial, (CallsIn.inRound l (callsIn_wide.2 PC.out)).mono ?_⟩
        rintro e w2 ⟨rfl, hb⟩
        have K2 : Hid (Below W.heap.size W w2) := hb
        have gr : W.grownBy w2 none := grBelow hb
        have BX2 : Hid (Boxed w2 w.heap.size 4 (.bool false)) := HBX.out.kept gr (by simp)
        have hc2 := BX2.out.cell
        have hf2 := BX2.out.frozen
        clear hb
        gi_wp2
        refine ⟨(KeepsFrom.of_grownBy gr (fun j e => by cases e)).trans (KeepsFrom.of_grownBy (grownBy_setCell' w2 w.heap.size _) (fun j e => by injection e with e; have := sz.out; omega)), rfl, BX2.out.set _, ?_, x, PY.out, HP.out⟩
        refine (HKP.out.trans (KeepBut.ofBelow K2.out sz.out.2)).trans ?_
        exact ⟨rfl, rfl, rfl, by simp [World.setCell], fun k hk hn => Below.heap_setCell _ _ _ _ (by simpa using hn)⟩
    case done =>
      rintro D ys W hD rfl ⟨hbx, hkp, hall⟩ hK
      have AY : Hid (allProgs ps = true) := allProgs_yes h100 hall
      have BWW : Hid (Below w.heap.size w W) := K1.out.trans ⟨hkp.os, hkp.tape, hkp.output, hkp.size, fun k hk => hkp.block k (by have := S1.out; omega) (by simp; omega)⟩
      have hc2 := hbx.cell
      have hf2 := hbx.frozen
      have HBX : Hid (Boxed W w.heap.size 4 (.bool false)) := hbx
      have szW : Hid (w1.heap.size ≤ W.heap.size ∧ w.heap.size < w1.heap.size) := ⟨hkp.size, by have := S1.out; omega⟩
      gi_wp2
      have hK' := (KeepsOthers.setCell W ⟨w.heap.size, 0, none⟩ (.bool true)).same D _ hK rfl
      refine ⟨by simp, .inl ⟨_, _, rfl, run_takeDeferred hK', ?_⟩⟩
      have hne : D ≠ w.heap.size := by have := szW.out; omega
      refine ⟨.bool true, ?_, by rw [AY.out], ?_⟩
      · have h5 := cell_kept (HBX.out.set (.bool true)).cell (grownBy_putObj' _ D (.deferred none)) (fun r e => by cases e; exact ⟨_, hK', rfl⟩)
        simp [results, Try.results82, go_sem, h5]
      · have b1 : Below w.heap.size w (W.setCell ⟨w.heap.size, 0, none⟩ (.bool true)) := BWW.out.setCell (Nat.le_refl _) _
        exact b1.grown (grownBy_putObj' _ D _) (by have := b1.size; omega) (fun k e => by injection e with e; have := szW.out; omega)
    case stop =>
      rintro D cc pre W hD ⟨k, hk, rfl⟩ ⟨rfl, hbx, hkp, i, hi, hno⟩ hK
      have AN : Hid (allProgs ps = false) := allProgs_no (i := i) (by simp at hi; omega) hno
      have BWW : Hid (Below w.heap.size w W) := K1.out.trans ⟨hkp.os, hkp.tape, hkp.output, hkp.size, fun k hk => hkp.block k (by have := S1.out; omega) (by simp; omega)⟩
      have szW : Hid (w1.heap.size ≤ W.heap.size ∧ w.heap.size < w1.heap.size) := ⟨hkp.size, by have := S1.out; omega⟩
      gi_wp2
      refine ⟨by simp, .inl ⟨_, _, rfl, run_takeDeferred hK, ?_⟩⟩
      refine ⟨.bool false, ?_, by rw [AN.out], ?_⟩
      · have h5 := cell_kept hbx.cell (grownBy_putObj' _ D (.deferred none)) (fun r e => by cases e; exact ⟨_, hK, rfl⟩)
        simp [results, Try.results82, go_sem, h5]
      · exact BWW.out.grown (grownBy_putObj' _ D _) (by have := BWW.out.size; omega) (fun k e => by injection e with e; have := szW.out; omega)
  · have d100 : decide ((100 : Int) < (ps.length : Int)) = true := by simp; omega
    have AN : Hid (allProgs ps = false) := by show _ = _; unfold allProgs; simp; omega
    obtain ⟨W0, hW0⟩ : ∃ W, W = w.alloc (.cells #[.bool false] 4) := ⟨_, rfl⟩
    have B0 : Hid (Below w.heap.size w W0) := by show Below _ _ _; rw [hW0]; exact below_new _ _
    have X0 : Hid (Boxed W0 w.heap.size 4 (.bool false)) := by show Boxed _ _ _ _; rw [hW0]; exact Boxed.new _ _ _
    have HW0 : Hid (W0 = _) := hW0
    clear hW0
    go_enter Try.func82, Try.ntmps82
    go_upto_region 2 with fail
    rw [← HW0.out]
    have hc2 := X0.out.cell
    have hf2 := X0.out.frozen
    go_wp2
    refine bodyPost_ret (v := .bool false) (by simp [results, Try.results82, go_sem, (X0.out.set (.bool false)).cell]) rfl ?_
    exact ⟨by rw [AN.out], B0.out.setCell (Nat.le_refl _) _⟩
end Go.Proofs.Ytgcencilgpilaaa.Own
