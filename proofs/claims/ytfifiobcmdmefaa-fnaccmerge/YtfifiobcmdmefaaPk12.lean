/-
  Own texts, bundled: ListGrow2, VoteI, SpecVote, VoteT, AccV, DrawAccOk, MergeMath, KeepMath, SameVI, AccOwn, AccNextI, DrawOwner, DrawNext, ArgBytes.
-/
import Derived.Test.YtfifiobcmdmefaaPk6
import Derived.Test.YtfifiobcmdmefaaPk11
import Derived.Test.YtfifiobcmdmefaaPk9
import Derived.Test.YtfifiobcmdmefaaPk7
import Derived.Deep.Cut
import Derived.Test.YtfifiobcmdmefaaPk5
import Derived.ProofKit
namespace Go.Proofs.Ytfifiobcmdmefaa.Own
open Go.RowKit
set_option linter.unusedVariables false
set_option linter.unusedSimpArgs false

/-- Of the blocks that were there none has turned but the row's. -/
structure But1 (ro : Option Nat) (w w' : World) : Prop where
  os : w'.os = w.os
  tape : w'.tape = w.tape
  output : w'.output = w.output
  size : w.heap.size ≤ w'.heap.size
  block : ∀ b, b < w.heap.size → ro ≠ some b → w'.heap[b]? = w.heap[b]?
theorem But1.refl (ro : Option Nat) (w : World) : But1 ro w w := ⟨rfl, rfl, rfl, Nat.le_refl _, fun _ _ _ => rfl⟩
theorem Blk.but1 {ro : Option Nat} {w w' : World} {b : Nat} {C : Array Value} {t : TypeId} (h : Blk w b C t) (k : But1 ro w w') (hn : ro ≠ some b) : Blk w' b C t := by
  unfold Blk; rw [k.block b h.lt hn]; exact h
theorem But1.below {ro : Option Nat} {w w' : World} {B : Nat} (k : But1 ro w w') (hB : B ≤ w.heap.size) (hr : ∀ g, ro = some g → B ≤ g) : Below B w w' :=
  ⟨k.os, k.tape, k.output, k.size, fun b hb => k.block b (by omega) (fun e => by have := hr b e; omega)⟩

set_option maxRecDepth 100000 in
set_option maxHeartbeats 2000000 in
theorem listGrownB (v : Value) (us : List VM) (n : Nat) (w : World) (B : Nat) (h : OwnL w B v us) (hB : B ≤ w.heap.size) (hu : us.length ≤ 2 ^ 30) (hn : n ≤ 2 ^ 30) :
    Calls Try.prog 52 #[v, .int .i64 n] w fun e w' => ∃ v', e = .returned v' ∧ OwnL w' B v' (padV us (n - us.length)) ∧ But1 v.ownBlock w w' ∧ (v'.ownBlock = v.ownBlock ∨ ∀ g, v'.ownBlock = some g → w.heap.size ≤ g) := by
  obtain ⟨a0, cap0, rfl⟩ := h.form
  have H : Hid (OwnL w B (.slice a0 us.length cap0) us) := h
  clear h
  obtain ⟨i0, hi, hz0, hz1, hz2⟩ := info_parts infoVoteC
  have I0 : Hid (Try.prog.info? 42 = some i0 ∧ i0.zero = some (.agg #[.int .i64 0, .bool false, .int .i64 0, .int .i64 0, .slice none 0 0, .slice none 0 0, .int .i64 0, .int .i64 0]) ∧ i0.size = 8 ∧ i0.bytes = 96) := ⟨hi, hz0, hz1, hz2⟩
  clear hi hz0 hz1 hz2
  go_enter Try.func52, Try.ntmps52
  go_wp2_with fail
  go_loopw [0] (fun o wr => ∃ (k : Nat) (a : Option Addr) (cap : Nat), k ≤ n - us.length ∧ o = .slice a (us.length + k) cap ∧ Hid (OwnL wr B (.slice a (us.length + k) cap) (padV us k)) ∧ Hid (But1 (Value.slice a0 us.length cap0).ownBlock w wr) ∧ Hid ((Value.slice a (us.length + k) cap).ownBlock = (Value.slice a0 us.length cap0).ownBlock ∨ ∀ g, (Value.slice a (us.length + k) cap).ownBlock = some g → w.heap.size ≤ g)) (fun o _ => n - lenN o)
  case atStart => exact ⟨0, a0, cap0, Nat.zero_le _, rfl, by show OwnL _ _ _ _; simpa [padV] using H.out, But1.refl _ _, .inl rfl⟩
  case round =>
    obtain ⟨k, a, cap, hk, rfl, OL, BW, AR⟩ := hrel
    by_cases hlt : us.length + k < n
    · have hji : ((us.length + k : Nat) : Int) < (n : Int) := by omega
      have s1 := BW.out.size
      have BA : Hid (Below wr.heap.size wr (wr.alloc (.cells v0.cells 42))) := (Below.refl _ _).alloc (Nat.le_refl _) _
      have PL := padV_len us k
      have OK : Hid (OwnL (wr.alloc (.cells v0.cells 42)) B (.slice a (us.length + k) cap) (padV us k)) := OL.out.keep BA.out
      have RW : Hid ((wr.alloc (.cells v0.cells 42)).ownsRow B 42 8 (.slice a (us.length + k) cap) (us.length + k) (flat8 (padV us k))) := by
        have := OK.out.row
        rw [PL] at this
        exact this
      have PLH : Hid ((padV us k).length = us.length + k) := PL
      clear PL
      go_wp2_with (at_builtin; go_loud (refine wpList_append_lies _ rfl (.tmp 9) (.tmp 11) 89 rfl B 42 i0 _ 8 96 Try.underlying89 I0.out.1 I0.out.2.1 I0.out.2.2.1 I0.out.2.2.2 rfl (by decide) (.slice a (us.length + k) cap) (us.length + k) (flat8 (padV us k)) rfl RW.out ⟨wr.heap.size, 0, none⟩ 1 1 v0.cells.toList rfl rfl (eight_new wr v0) (cells_one v0) (by decide) (by unfold maxLen; omega) (by omega) (by rw [size_new]; omega) (wr.heap.size + 1) (size_new _ _) ?_))
      intro g4 cap4 w4 hown4 hgr hloc hg4
      have OW4 : Hid (OwnL w4 B (.slice (some ⟨g4, 0, none⟩) (us.length + k + 1) cap4) (padV us (k + 1))) := by
        show OwnL _ _ _ _
        rw [padV_succ]
        exact OL.out.snoc BA.out (one_v0 _ _) (by omega) (by rw [PLH.out]; exact hown4) hgr (fun g hg => by
          simp only [Value.ownBlock] at hg
          injection hg with hg
          rcases hloc with hloc | hloc
          · left; rw [hloc, hg]
          · right; rw [size_new]; omega)
      have blk4 : ∀ b, b < wr.heap.size → (Value.slice a (us.length + k) cap).ownBlock ≠ some b → w4.heap[b]? = wr.heap[b]? := fun b hb hn => (hgr.block b (by rw [size_new]; omega) (fun e => hn e.symm)).trans (heap_old _ _ _ hb)
      have N4 : Hid (But1 (Value.slice a0 us.length cap0).ownBlock w w4) := ⟨hgr.os.trans BW.out.os, hgr.tape.trans BW.out.tape, hgr.output.trans BW.out.output, by have := hgr.size; rw [size_new] at this; omega, fun b hb h1 => (blk4 b (by omega) (fun e => by
        rcases AR.out with ar | ar
        · exact h1 (by rw [← ar]; exact e)
        · have := ar b e; omega)).trans (BW.out.block b hb h1)⟩
      have A4 : Hid ((Value.slice (some ⟨g4, 0, none⟩) (us.length + k + 1) cap4).ownBlock = (Value.slice a0 us.length cap0).ownBlock ∨ ∀ g, (Value.slice (some ⟨g4, 0, none⟩) (us.length + k + 1) cap4).ownBlock = some g → w.heap.size ≤ g) := by
        show _ ∨ _
        rcases hloc with hl | hl
        · rcases AR.out with ar | ar
          · left; rw [← ar, hl]; rfl
          · right
            intro g hg
            simp only [Value.ownBlock] at hg
            injection hg with hg
            have := ar g4 hl
            omega
        · right
          intro g hg
          simp only [Value.ownBlock] at hg
          injection hg with hg
          omega
      clear hown4 hgr hloc hg4 blk4
      go_wp2_with fail
      refine ⟨⟨k + 1, some ⟨g4, 0, none⟩, cap4, by omega, rfl, OW4.out, N4.out, A4.out⟩, ?_⟩
      simp only [lenN]; omega
    · have hji : ¬ ((us.length + k : Nat) : Int) < (n : Int) := by omega
      have hk' : k = n - us.length := by omega
      go_wp2_with fail
      go_ret
      exact ⟨_, rfl, by rw [← hk']; exact OL.out, BW.out, by show (Value.slice a (us.length + (n - us.length)) cap).ownBlock = _ ∨ ∀ g, (Value.slice a (us.length + (n - us.length)) cap).ownBlock = some g → _; rw [← hk']; exact AR.out⟩
end Go.Proofs.Ytfifiobcmdmefaa.Own

namespace Go.Proofs.Ytfifiobcmdmefaa.Own
open Go.RowKit
set_option linter.unusedVariables false
set_option linter.unusedSimpArgs false

theorem all4 (f : Nat → Bool) : (List.range 4).all f = (f 0 && (f 1 && (f 2 && f 3))) := by
  simp [List.range, List.range.loop]

set_option maxRecDepth 100000 in
set_option maxHeartbeats 1500000 in
theorem implVote (m : Int) (a : Option Addr) (c : Nat) (vs : List VM) (bal slot : Int) (n : Bool) (p q : Int) (a1 a2 : Option Addr) (c1 c2 : Nat) (xs ys : List P2) (v k : Int) (w : World) (h1 : SlV w a vs) (l1 : VLs vs) (nn : vs.length ≤ 2 ^ 29) (s1 : Sl w a1 xs) (s2 : Sl w a2 ys) (n1 : xs.length ≤ 2 ^ 40) (n2 : ys.length ≤ 2 ^ 40) :
    Calls Try.prog 11 #[.agg #[.int .i64 m, .slice a vs.length c], .int .i64 bal, .int .i64 slot, .agg #[.bool n, .int .i64 p, .int .i64 q, .slice a1 xs.length c1, .slice a2 ys.length c2, .int .i64 v, .int .i64 k]] w fun e w' => ∃ lv us, e = .returned (.tuple #[.agg #[.int .i64 (voM m bal slot ⟨n, p, q, xs, ys, v, k⟩ (bodies vs)), lv], .bool (voO m bal slot ⟨n, p, q, xs, ys, v, k⟩ (bodies vs))]) ∧ OwnC w' w.heap.size w'.heap.size lv us ∧ bodies us = voB m bal slot ⟨n, p, q, xs, ys, v, k⟩ (bodies vs) ∧ Below w.heap.size w w' := by
  obtain ⟨BD, hBD⟩ : ∃ BD : Array Value, BD = #[.int .i64 m, .slice a vs.length c, .int .i64 bal, .int .i64 slot, .bool n, .int .i64 p, .int .i64 q, .slice a1 xs.length c1, .slice a2 ys.length c2, .int .i64 v, .int .i64 k] := ⟨_, rfl⟩
  have HBD : Hid (BD = _) := hBD
  obtain ⟨W, hW⟩ : ∃ W, W = ((w.alloc (.cells #[.int .i64 m, .slice a vs.length c] 25)).alloc (.cells #[.bool n, .int .i64 p, .int .i64 q, .slice a1 xs.length c1, .slice a2 ys.length c2, .int .i64 v, .int .i64 k] 33)).alloc (.cells #[.int .i64 0, .slice none 0 0] 25) := ⟨_, rfl⟩
  have BW : Below w.heap.size w W := by rw [hW]; exact (((Below.refl _ _).alloc (Nat.le_refl _) _).alloc (by simp) _).alloc (by rw [size_new, size_new]; omega) _
  have PW : Hid (Blk W w.heap.size #[.int .i64 m, .slice a vs.length c] 25) := by show Blk _ _ _ _; rw [hW]; exact ((Blk.new _ _ _).alloc _).alloc _
  have EW : Hid (Blk W (w.heap.size + 1) #[.bool n, .int .i64 p, .int .i64 q, .slice a1 xs.length c1, .slice a2 ys.length c2, .int .i64 v, .int .i64 k] 33) := by show Blk _ _ _ _; rw [hW]; exact (Blk.new2 _ _ _ _).alloc _
  have ZW : Hid (Blk W (w.heap.size + 2) #[.int .i64 0, .slice none 0 0] 25) := by show Blk _ _ _ _; rw [hW]; exact Blk.new3 _ _ _ _ _
  have SW : W.heap.size = w.heap.size + 3 := by rw [hW]; simp
  obtain ⟨Y, hY⟩ : ∃ Y, Y = W.alloc (.cells BD 87) := ⟨_, rfl⟩
  have BY : Below W.heap.size W Y := by rw [hY]; exact (Below.refl _ _).alloc (Nat.le_refl _) _
  have DY : Hid (Blk Y W.heap.size BD 87) := by show Blk _ _ _ _; rw [hY]; exact Blk.new _ _ _
  have SY : Y.heap.size = w.heap.size + 4 := by rw [hY]; simp [SW]
  obtain ⟨X, hX⟩ : ∃ X, X = Y.alloc (.cells #[.func (.func 48) #[.agg BD] #[], .func (.func 49) #[.agg BD] #[], .func (.func 50) #[.agg BD] #[], .func (.func 51) #[.agg BD] #[]] 64) := ⟨_, rfl⟩
  have BX : Below Y.heap.size Y X := by rw [hX]; exact (Below.refl _ _).alloc (Nat.le_refl _) _
  have RX : Blk X Y.heap.size #[.func (.func 48) #[.agg BD] #[], .func (.func 49) #[.agg BD] #[], .func (.func 50) #[.agg BD] #[], .func (.func 51) #[.agg BD] #[]] 64 := by rw [hX]; exact Blk.new _ _ _
  have KX : Below w.heap.size w X := (BW.trans (BY.mono (by omega))).trans (BX.mono (by omega))
  have CK : castOk m bal slot ⟨n, p, q, xs, ys, v, k⟩ = (isBal bal && (decide (m ≤ bal) && ((decide (0 ≤ slot) && decide (slot < 40)) && entOk n p q xs ys v k))) := by
    unfold castOk promOk
    rw [Bool.and_assoc]
    rfl
  have AE : ((List.range 4).all fun i => [isBal bal, decide (m ≤ bal), (decide (0 ≤ slot) && decide (slot < 40)), entOk n p q xs ys v k].getD i false) = castOk m bal slot ⟨n, p, q, xs, ys, v, k⟩ := by
    rw [all4, CK]
    rfl
  have CB : Hid (Calls Try.prog 47 #[.agg BD, .slice (some ⟨Y.heap.size, 0, none⟩) 4 4] X fun e w' => BidPost m bal (bodies vs) (accOk m (bodies vs)) (castOk m bal slot ⟨n, p, q, xs, ys, v, k⟩) X e w') := by
    show Calls _ _ _ _ _
    have h := bidPromise m a c vs bal slot n p q a1 a2 c1 c2 xs ys v k X [48, 49, 50, 51] [isBal bal, decide (m ≤ bal), (decide (0 ≤ slot) && decide (slot < 40)), entOk n p q xs ys v k] Y.heap.size 4 (h1.below KX) l1 (by omega) RX.lt (by decide)
      (fun i hi => by
        match i, hi with
        | 0, _ => exact .inl rfl
        | 1, _ => exact .inr (.inl rfl)
        | 2, _ => exact .inr (.inr (.inl rfl))
        | 3, _ => exact .inr (.inr (.inr rfl)))
      (fun i hi => by
        match i, hi with
        | 0, _ => rw [RX.cell, hBD]; rfl
        | 1, _ => rw [RX.cell, hBD]; rfl
        | 2, _ => rw [RX.cell, hBD]; rfl
        | 3, _ => rw [RX.cell, hBD]; rfl)
      (fun i hi V hV => by
        match i, hi with
        | 0, _ => exact bidInBallot m a c vs bal slot n p q a1 a2 c1 c2 xs ys v k V
        | 1, _ => exact bidKeeps m a c vs bal slot n p q a1 a2 c1 c2 xs ys v k V
        | 2, _ => exact bidPlace m a c vs bal slot n p q a1 a2 c1 c2 xs ys v k V
        | 3, _ => exact bidEntry m a c vs bal slot n p q a1 a2 c1 c2 xs ys v k V ((s1.below KX).below hV) ((s2.below KX).below hV) n1 n2)
    rw [show ([48, 49, 50, 51] : List Nat).length = 4 from rfl, AE] at h
    rw [hBD]
    exact h
  have H3 : Hid (Y.heap.size = w.heap.size + 4 ∧ X.heap.size = w.heap.size + 5) := ⟨SY, by rw [hX]; simp [SY]⟩
  have HK : Hid (Below w.heap.size w X) := KX
  have ZX : Hid (Blk X (w.heap.size + 2) #[.int .i64 0, .slice none 0 0] 25) := (ZW.out.keep BY).keep BX
  have EX : Hid (Blk X (w.heap.size + 1) #[.bool n, .int .i64 p, .int .i64 q, .slice a1 xs.length c1, .slice a2 ys.length c2, .int .i64 v, .int .i64 k] 33) := (EW.out.keep BY).keep BX
  have HW : Hid (W = _) := hW
  have HY : Hid (Y = _) := hY
  have HX : Hid (X = _) := hX
  have SL : Hid (Sl X a1 xs ∧ Sl X a2 ys) := ⟨s1.below KX, s2.below KX⟩
  have PL : Hid (castOk m bal slot ⟨n, p, q, xs, ys, v, k⟩ = true → 0 ≤ slot ∧ slot < 40) := castOk_place
  have E1 : Hid (voM m bal slot ⟨n, p, q, xs, ys, v, k⟩ (bodies vs) = if accOk m (bodies vs) then (if castOk m bal slot ⟨n, p, q, xs, ys, v, k⟩ then bal else m) else 0) := rfl
  have E2 : Hid (voB m bal slot ⟨n, p, q, xs, ys, v, k⟩ (bodies vs) = if accOk m (bodies vs) then (if castOk m bal slot ⟨n, p, q, xs, ys, v, k⟩ then castB (bodies vs) slot.toNat (bal, ⟨n, p, q, xs, ys, v, k⟩) else bodies vs) else []) := rfl
  have E3 : Hid (voO m bal slot ⟨n, p, q, xs, ys, v, k⟩ (bodies vs) = (accOk m (bodies vs) && castOk m bal slot ⟨n, p, q, xs, ys, v, k⟩)) := rfl
  generalize voM m bal slot ⟨n, p, q, xs, ys, v, k⟩ (bodies vs) = M at E1 ⊢
  generalize voB m bal slot ⟨n, p, q, xs, ys, v, k⟩ (bodies vs) = BB at E2 ⊢
  generalize voO m bal slot ⟨n, p, q, xs, ys, v, k⟩ (bodies vs) = OO at E3 ⊢
  clear CK AE
  generalize castOk m bal slot ⟨n, p, q, xs, ys, v, k⟩ = A at CB E1 E2 E3 PL
  generalize accOk m (bodies vs) = K at CB E1 E2 E3
  obtain ⟨p0, p1⟩ := PW.out.cells2
  obtain ⟨b0, b1, b2, b3, b4, b5, b6⟩ := EW.out.cells7
  clear h1 l1 BW SW BY SY BX RX KX hW hY hX s1 s2
  go_enter Try.func11, Try.ntmps11
  go_upto_region 1 with fail
  rw [← HW.out]
  go_upto_region 2 with fail
  rw [← HBD.out, ← HY.out]
  have hmf : ∀ (fn : Fn) (first cap : Array Value) (w : World), (Instr.makeFunc fn first cap).run Try.prog w = .ok (.func fn first cap) w := fun _ _ _ _ => rfl
  have d0 : Y.cell? ⟨W.heap.size, 0, none⟩ = some (.int .i64 m) := by rw [DY.out.cell, HBD.out]; rfl
  have d1 : Y.cell? ⟨W.heap.size, 1, none⟩ = some (.slice a vs.length c) := by rw [DY.out.cell, HBD.out]; rfl
  have d2 : Y.cell? ⟨W.heap.size, 2, none⟩ = some (.int .i64 bal) := by rw [DY.out.cell, HBD.out]; rfl
  have d3 : Y.cell? ⟨W.heap.size, 3, none⟩ = some (.int .i64 slot) := by rw [DY.out.cell, HBD.out]; rfl
  have d4 : Y.cell? ⟨W.heap.size, 4, none⟩ = some (.bool n) := by rw [DY.out.cell, HBD.out]; rfl
  have d5 : Y.cell? ⟨W.heap.size, 5, none⟩ = some (.int .i64 p) := by rw [DY.out.cell, HBD.out]; rfl
  have d6 : Y.cell? ⟨W.heap.size, 6, none⟩ = some (.int .i64 q) := by rw [DY.out.cell, HBD.out]; rfl
  have d7 : Y.cell? ⟨W.heap.size, 7, none⟩ = some (.slice a1 xs.length c1) := by rw [DY.out.cell, HBD.out]; rfl
  have d8 : Y.cell? ⟨W.heap.size, 8, none⟩ = some (.slice a2 ys.length c2) := by rw [DY.out.cell, HBD.out]; rfl
  have d9 : Y.cell? ⟨W.heap.size, 9, none⟩ = some (.int .i64 v) := by rw [DY.out.cell, HBD.out]; rfl
  have d10 : Y.cell? ⟨W.heap.size, 10, none⟩ = some (.int .i64 k) := by rw [DY.out.cell, HBD.out]; rfl
  clear hBD p0 p1 b0 b1 b2 b3 b4 b5 b6
  go_wp2_with fail
  rw [← HBD.out, ← HX.out]
  refine Calls.mono CB.out ?_
  rintro e w2 ⟨lv, us, rfl, o2, e2, b2⟩
  obtain ⟨la, lc, rfl⟩ := o2.form
  have O2 : Hid (OwnL w2 X.heap.size (.slice la us.length lc) us) := o2
  have U2 : Hid (bodies us = if K then bodies vs else []) := e2
  have B2 : Hid (Below X.heap.size X w2) := b2
  have UL : Hid (us.length ≤ 2 ^ 29) := by
    show _ ≤ _
    have := congrArg List.length e2
    rw [bodies_len] at this
    rw [this]
    split
    · rw [bodies_len]; exact nn
    · simp
  have M2 : Hid (M = if K then if A then bal else m else 0) := E1.out
  clear o2 e2 b2 d0 d1 d2 d3 d4 d5 d6 d7 d8 d9 d10 hmf
  generalize (if K then if A then bal else m else 0) = PT at M2 ⊢
  obtain ⟨PO, hPO⟩ : ∃ PO, PO = (K && A) := ⟨_, rfl⟩
  rw [← hPO]
  have O3 : Hid (OO = PO) := by show _ = _; rw [hPO]; exact E3.out
  have HPO : Hid (PO = (K && A)) := hPO
  clear hPO
  go_upto_region 3 with fail
  obtain ⟨C, hC⟩ : ∃ C, C = w2.heap.size := ⟨_, rfl⟩
  rw [← hC]
  obtain ⟨D, hD⟩ : ∃ D, D = w2.alloc (.cells #[.int .i64 PT, .slice la us.length lc] 25) := ⟨_, rfl⟩
  rw [← hD]
  have BD2 : Hid (Below w2.heap.size w2 D) := by show Below _ _ _; rw [hD]; exact (Below.refl _ _).alloc (Nat.le_refl _) _
  have CD : Hid (Blk D C #[.int .i64 PT, .slice la us.length lc] 25) := by show Blk _ _ _ _; rw [hD, hC]; exact Blk.new _ _ _
  have OD : Hid (OwnL D X.heap.size (.slice la us.length lc) us) := O2.out.keep BD2.out
  have XD : Hid (Below X.heap.size X D) := B2.out.trans (BD2.out.mono B2.out.size)
  have KD : Hid (Below w.heap.size w D) := HK.out.trans (XD.out.mono HK.out.size)
  have ZD : Hid (Blk D (w.heap.size + 2) #[.int .i64 0, .slice none 0 0] 25) := ZX.out.keep XD.out
  have ED : Hid (Blk D (w.heap.size + 1) #[.bool n, .int .i64 p, .int .i64 q, .slice a1 xs.length c1, .slice a2 ys.length c2, .int .i64 v, .int .i64 k] 33) := EX.out.keep XD.out
  have SD : Hid (X.heap.size ≤ C ∧ D.heap.size = C + 1) := ⟨by have := B2.out.size; omega, by rw [hD, hC]; simp⟩
  have HCC : Hid (C = w2.heap.size) := hC
  have BLKN : Hid (∀ i, i < us.length → ∀ b, (blk1 (us.getD i v0) = some b ∨ blk2 (us.getD i v0) = some b) → b < C) := fun i hi b e => by
    rw [hC]
    rcases e with e | e
    · exact ((O2.out.one i hi).b1 b e).2
    · exact ((O2.out.one i hi).b2 b e).2
  have ROW0 : Hid (∀ g, (Value.slice la us.length lc).ownBlock = some g → g < C) := fun g e => by rw [hC]; exact ownsRow_lt8 O2.out.row g e
  clear hD hC
  cases PO with
  | false =>
    obtain ⟨m0, m1⟩ := CD.out.cells2
    obtain ⟨z0, z1⟩ := ZD.out.cells2
    have fz := ZD.out.frozen
    have sd := SD.out
    have s3 := H3.out
    go_wp2_with fail
    have zb := (((ZD.out.set 0 (.int .i64 PT)).set 1 (.slice la us.length lc)).eq (C' := #[.int .i64 PT, .slice la us.length lc]) (by simp)).cells2
    obtain ⟨y0, y1⟩ := zb
    refine bodyPost_ret (v := .tuple #[.agg #[.int .i64 PT, .slice la us.length lc], .bool false]) (by simp [results, Try.results11, go_sem, y0, y1]) rfl ?_
    have on : Only (w.heap.size + 2) D ((D.setCell ⟨w.heap.size + 2, 0, none⟩ (.int .i64 PT)).setCell ⟨w.heap.size + 2, 1, none⟩ (.slice la us.length lc)) := ((Only.refl _ _).setCell _).setCell _
    refine ⟨_, us, by rw [M2.out, O3.out], OwnC.ofL ((OD.out.high (Nat.le_of_eq on.size.symm) fun b hb => on.block b (by omega)).low (by omega)), ?_, KD.out.trans (on.below (by omega))⟩
    rw [U2.out, E2.out]
    have := HPO.out
    revert this
    cases K <;> cases A <;> simp
  | true =>
    have KA : Hid (K = true ∧ A = true) := by
      have := HPO.out
      show _ ∧ _
      revert this
      cases K <;> cases A <;> simp
    have PLC := PL.out KA.out.2
    obtain ⟨s, rfl⟩ := Int.eq_ofNat_of_zero_le PLC.1
    have hs40 : s < 40 := by omega
    have BV2 : Hid (BB = castB (bodies vs) s (bal, ⟨n, p, q, xs, ys, v, k⟩)) := by
      show _ = _
      rw [E2.out, KA.out.1, KA.out.2]
      rfl
    have UV : Hid (bodies us = bodies vs) := by show _ = _; rw [U2.out, KA.out.1]; rfl
    clear PLC PL E2 U2 HPO
    obtain ⟨m0, m1⟩ := CD.out.cells2
    go_wp2_with fail
    refine (listGrownB (.slice la us.length lc) us (s + 1) D X.heap.size OD.out (by have := SD.out; omega) (by have := UL.out; omega) (by omega)).mono ?_
    rintro e w4 ⟨v4, rfl, o4, b4, a4⟩
    obtain ⟨U, hU⟩ : ∃ U, U = padV us (s + 1 - us.length) := ⟨_, rfl⟩
    rw [← hU] at o4
    have UN : s < U.length := by rw [hU, padV_len]; omega
    have UB : Hid (bodies U = bodies vs ++ List.replicate (s + 1 - (bodies vs).length) (0, e0)) := by show _ = _; rw [hU, bodies_pad, UV.out, ← UV.out, bodies_len]
    have NU : Hid (∀ b, C ≤ b → ∀ i, blk1 (U.getD i v0) ≠ some b ∧ blk2 (U.getD i v0) ≠ some b) := fun b hb i => by
      rw [hU, padV_getD]
      by_cases hi : i < us.length
      · exact ⟨fun e => by have := BLKN.out i hi b (.inl e); omega, fun e => by have := BLKN.out i hi b (.inr e); omega⟩
      · rw [getD_past (Nat.le_of_not_lt hi)]
        exact ⟨fun e => (by simp [blk1, blkOf, v0, e0] at e), fun e => (by simp [blk2, blkOf, v0, e0] at e)⟩
    clear hU
    have hne : U ≠ [] := fun e => by rw [e] at UN; simp at UN
    obtain ⟨g, cap4, rfl, _, ov, _⟩ := o4.vs hne
    have sd := SD.out
    have s3 := H3.out
    have kx := HK.out.size
    have G4 : Hid (X.heap.size ≤ g ∧ g ≠ C) := by
      show _ ∧ _
      refine ⟨ov.lo, fun e => ?_⟩
      rcases a4 with ar | ar
      · have := ROW0.out g (by rw [← ar]; rfl); omega
      · have := ar g rfl; omega
    have O4 : Hid (OwnL w4 X.heap.size (.slice (some ⟨g, 0, none⟩) U.length cap4) U) := o4
    have OV4 : Hid (OwnVs w4 X.heap.size g U) := ov
    have R0 : ∀ b, b < X.heap.size → (Value.slice la us.length lc).ownBlock ≠ some b := fun b hb e => by have := OD.out.from b e; omega
    have NC0 : (Value.slice la us.length lc).ownBlock ≠ some C := fun e => by have := ROW0.out C e; omega
    have C4 : Hid (Blk w4 C #[.int .i64 PT, .slice la us.length lc] 25) := CD.out.but1 b4 NC0
    have Z4 : Hid (Blk w4 (w.heap.size + 2) #[.int .i64 0, .slice none 0 0] 25) := ZD.out.but1 b4 (R0 _ (by omega))
    have E4 : Hid (Blk w4 (w.heap.size + 1) #[.bool n, .int .i64 p, .int .i64 q, .slice a1 xs.length c1, .slice a2 ys.length c2, .int .i64 v, .int .i64 k] 33) := ED.out.but1 b4 (R0 _ (by omega))
    have X4 : Hid (Below X.heap.size X w4) := XD.out.trans (b4.below (by omega) (fun g' e => OD.out.from g' e))
    have K4 : Hid (Below w.heap.size w w4) := HK.out.trans (X4.out.mono kx)
    have SZ4 : Hid (C + 1 ≤ w4.heap.size) := by show _ ≤ _; have := b4.size; omega
    clear o4 b4 a4 ov R0 NC0 m0 m1
    have SLX := SL.out
    obtain ⟨f0, f1, f2, f3, f4, f5, f6⟩ := E4.out.cells7
    have hsU : (s : Int) < (U.length : Int) := by omega
    have VC : Hid _ := voteCopied ⟨bal, ⟨n, p, q, xs, ys, v, k⟩, a1, c1, a2, c2⟩ w4 (SLX.1.below X4.out) (SLX.2.below X4.out) n1 n2
    simp only [VM.cells] at VC
    clear SLX
    go_wp2_with fail
    refine Calls.mono VC.out ?_
    rintro e w5 ⟨y, rfl, hyb, hy, b5⟩
    have YB : Hid (y.body = (bal, ⟨n, p, q, xs, ys, v, k⟩)) := hyb
    have Y5 : Hid (OneOwn w5 w4.heap.size y) := hy
    have B5 : Hid (Below w4.heap.size w4 w5) := b5
    have hgb := OV4.out.lt
    obtain ⟨k0, k1, k2, k3, k4, k5, k6, k7⟩ : C8 w5 g (s * 8) (U.getD s v0) := (OV4.out.cell s UN).congr fun l hl => b5.cell (p := ⟨g, s * 8 + l, none⟩) hgb
    have fr : ∀ o, w5.frozen? ⟨g, o, none⟩ = false := fun o => by rw [b5.frozen (p := ⟨g, o, none⟩) hgb]; exact OV4.out.fr o
    have PUT : Hid (OwnL (set8 w5 g (s * 8) y) X.heap.size (.slice (some ⟨g, 0, none⟩) U.length cap4) (U.set s y)) := O4.out.put b5 hy (by have := X4.out.size; omega) s UN rfl
    have KEEP : ∀ b, b < w4.heap.size → b ≠ g → (set8 w5 g (s * 8) y).heap[b]? = w4.heap[b]? := fun b hb hn => by rw [set8_keep _ _ _ _ _ hn]; exact b5.block b hb
    have C5 : Hid (Blk (set8 w5 g (s * 8) y) C #[.int .i64 PT, .slice la us.length lc] 25) := by
      show Blk _ _ _ _
      unfold Blk
      rw [KEEP C C4.out.lt (fun e => G4.out.2 e.symm)]; exact C4.out
    have Z5 : Hid (Blk (set8 w5 g (s * 8) y) (w.heap.size + 2) #[.int .i64 0, .slice none 0 0] 25) := by
      show Blk _ _ _ _
      unfold Blk
      rw [KEEP _ Z4.out.lt (by have := G4.out; omega)]; exact Z4.out
    have K5 : Hid (Below w.heap.size w (set8 w5 g (s * 8) y)) := set8_below (K4.out.trans (b5.mono K4.out.size)) (by have := G4.out; omega) _ _
    have NUS : Hid (∀ b, C ≤ b → b < w4.heap.size → ∀ i, i < (U.set s y).length → blk1 ((U.set s y).getD i v0) ≠ some b ∧ blk2 ((U.set s y).getD i v0) ≠ some b) := fun b hb hb2 i hi => by
      rw [getD_setV _ _ _ _ UN]
      by_cases e : s = i
      · rw [if_pos e]
        exact ⟨fun e => by have := (Y5.out.b1 _ e).1; omega, fun e => by have := (Y5.out.b2 _ e).1; omega⟩
      · rw [if_neg e]; exact NU.out b hb i
    have ZN : Hid (∀ i, i < (U.set s y).length → blk1 ((U.set s y).getD i v0) ≠ some (w.heap.size + 2) ∧ blk2 ((U.set s y).getD i v0) ≠ some (w.heap.size + 2)) := fun i hi => by
      have o := PUT.out.one i hi
      exact ⟨fun e => by have := (o.b1 _ e).1; omega, fun e => by have := (o.b2 _ e).1; omega⟩
    simp only [VM.cells]
    clear hyb hy b5 KEEP f0 f1 f2 f3 f4 f5 f6 VC
    go_upto_region 6 with fail
    obtain ⟨G, hG⟩ : ∃ G, G = set8 w5 g (s * 8) y := ⟨_, rfl⟩
    rw [← hG] at PUT C5 Z5 K5
    show Code.wp _ _ _ _ (set8 w5 g (s * 8) y)
    rw [← hG]
    clear hG k0 k1 k2 k3 k4 k5 k6 k7 fr
    obtain ⟨m0, m1⟩ := C5.out.cells2
    have fc := C5.out.frozen
    go_upto_region 7 with fail
    obtain ⟨H, hH⟩ : ∃ H, H = G.setCell ⟨C, 1, none⟩ (.slice (some ⟨g, 0, none⟩) U.length cap4) := ⟨_, rfl⟩
    rw [← hH]
    have CH : Hid (Blk H C #[.int .i64 PT, .slice (some ⟨g, 0, none⟩) U.length cap4] 25) := by show Blk _ _ _ _; rw [hH]; exact (C5.out.set 1 _).eq (by simp)
    have on1 : Only C G H := by rw [hH]; exact (Only.refl _ _).setCell _
    have ZH : Hid (Blk H (w.heap.size + 2) #[.int .i64 0, .slice none 0 0] 25) := by show Blk _ _ _ _; rw [hH]; exact Z5.out.other (by omega) _ _
    have OH : Hid (OwnL H X.heap.size (.slice (some ⟨g, 0, none⟩) U.length cap4) (U.set s y)) := PUT.out.onlyOut on1 ⟨fun e => G4.out.2 (by injection e), NUS.out C (Nat.le_refl _) (by have := SZ4.out; omega)⟩
    have KH : Hid (Below w.heap.size w H) := K5.out.trans (on1.below (by omega))
    clear hH on1 m0 m1 fc
    obtain ⟨m0, m1⟩ := CH.out.cells2
    obtain ⟨z0, z1⟩ := ZH.out.cells2
    have fz := ZH.out.frozen
    go_wp2_with fail
    have zb := (((ZH.out.set 0 (.int .i64 PT)).set 1 (.slice (some ⟨g, 0, none⟩) U.length cap4)).eq (C' := #[.int .i64 PT, .slice (some ⟨g, 0, none⟩) U.length cap4]) (by simp)).cells2
    obtain ⟨y0, y1⟩ := zb
    refine bodyPost_ret (v := .tuple #[.agg #[.int .i64 PT, .slice (some ⟨g, 0, none⟩) U.length cap4], .bool true]) (by simp [results, Try.results11, go_sem, y0, y1]) rfl ?_
    have on : Only (w.heap.size + 2) H ((H.setCell ⟨w.heap.size + 2, 0, none⟩ (.int .i64 PT)).setCell ⟨w.heap.size + 2, 1, none⟩ (.slice (some ⟨g, 0, none⟩) U.length cap4)) := ((Only.refl _ _).setCell _).setCell _
    refine ⟨_, U.set s y, by rw [M2.out, O3.out], OwnC.ofL ((OH.out.high (Nat.le_of_eq on.size.symm) fun b hb => on.block b (by omega)).low (by omega)), ?_, KH.out.trans (on.below (by omega))⟩
    rw [bodies_set, YB.out, UB.out, BV2.out]
    rfl
end Go.Proofs.Ytfifiobcmdmefaa.Own

namespace Go.Proofs.Ytfifiobcmdmefaa.Own
open Go.RowKit
set_option linter.unusedVariables false
set_option linter.unusedSimpArgs false

set_option maxRecDepth 100000 in
set_option maxHeartbeats 1500000 in
theorem specAccVote (m : Int) (a : Option Addr) (c : Nat) (vs : List VM) (bal slot : Int) (n : Bool) (p q : Int) (a1 a2 : Option Addr) (c1 c2 : Nat) (xs ys : List P2) (v k : Int) (w : World) (h1 : SlV w a vs) (l1 : VLs vs) (nn : vs.length ≤ 2 ^ 30) (s1 : Sl w a1 xs) (s2 : Sl w a2 ys) (n1 : xs.length ≤ 2 ^ 40) (n2 : ys.length ≤ 2 ^ 40) (hc1 : xs.length ≤ c1) (hc2 : ys.length ≤ c2) :
    Calls Try.prog 12 #[.agg #[.int .i64 m, .slice a vs.length c], .int .i64 bal, .int .i64 slot, .agg #[.bool n, .int .i64 p, .int .i64 q, .slice a1 xs.length c1, .slice a2 ys.length c2, .int .i64 v, .int .i64 k]] w fun e w' => ∃ lv us, e = .returned (.tuple #[.agg #[.int .i64 (voM m bal slot ⟨n, p, q, xs, ys, v, k⟩ (bodies vs)), lv], .bool (voO m bal slot ⟨n, p, q, xs, ys, v, k⟩ (bodies vs))]) ∧ OwnC w' w.heap.size w'.heap.size lv us ∧ bodies us = voB m bal slot ⟨n, p, q, xs, ys, v, k⟩ (bodies vs) ∧ Below w.heap.size w w' := by
  have H1 : Hid (SlV w a vs) := h1
  have L1 : Hid (VLs vs) := l1
  obtain ⟨W, hW⟩ : ∃ W, W = ((w.alloc (.cells #[.int .i64 m, .slice a vs.length c] 25)).alloc (.cells #[.bool n, .int .i64 p, .int .i64 q, .slice a1 xs.length c1, .slice a2 ys.length c2, .int .i64 v, .int .i64 k] 33)).alloc (.cells #[.int .i64 0, .slice none 0 0] 25) := ⟨_, rfl⟩
  have BW : Hid (Below w.heap.size w W) := by show Below _ _ _; rw [hW]; exact (((Below.refl _ _).alloc (Nat.le_refl _) _).alloc (by simp) _).alloc (by rw [size_new, size_new]; omega) _
  have PW : Hid (Blk W w.heap.size #[.int .i64 m, .slice a vs.length c] 25) := by show Blk _ _ _ _; rw [hW]; exact ((Blk.new _ _ _).alloc _).alloc _
  have EW : Hid (Blk W (w.heap.size + 1) #[.bool n, .int .i64 p, .int .i64 q, .slice a1 xs.length c1, .slice a2 ys.length c2, .int .i64 v, .int .i64 k] 33) := by show Blk _ _ _ _; rw [hW]; exact (Blk.new2 _ _ _ _).alloc _
  have ZW : Hid (Blk W (w.heap.size + 2) #[.int .i64 0, .slice none 0 0] 25) := by show Blk _ _ _ _; rw [hW]; exact Blk.new3 _ _ _ _ _
  have SW : Hid (W.heap.size = w.heap.size + 3) := by show _ = _; rw [hW]; simp
  have HW : Hid (W = _) := hW
  have SW1 : Hid (Sl W a1 xs ∧ Sl W a2 ys) := ⟨s1.below BW.out, s2.below BW.out⟩
  have CO : Hid _ := specAccOk m a c vs W (H1.out.below BW.out) (by omega) L1.out
  have E1 : Hid (voM m bal slot ⟨n, p, q, xs, ys, v, k⟩ (bodies vs) = if accOk m (bodies vs) then (if castOk m bal slot ⟨n, p, q, xs, ys, v, k⟩ then bal else m) else 0) := rfl
  have E2 : Hid (voB m bal slot ⟨n, p, q, xs, ys, v, k⟩ (bodies vs) = if accOk m (bodies vs) then (if castOk m bal slot ⟨n, p, q, xs, ys, v, k⟩ then castB (bodies vs) slot.toNat (bal, ⟨n, p, q, xs, ys, v, k⟩) else bodies vs) else []) := rfl
  have EO : Hid (voO m bal slot ⟨n, p, q, xs, ys, v, k⟩ (bodies vs) = (accOk m (bodies vs) && castOk m bal slot ⟨n, p, q, xs, ys, v, k⟩)) := rfl
  have L4 : Hid (accOk m (bodies vs) = true → vs.length ≤ 40) := fun h => by have := accOk_len h; rw [bodies_len] at this; exact this
  generalize voM m bal slot ⟨n, p, q, xs, ys, v, k⟩ (bodies vs) = M at E1 ⊢
  generalize voB m bal slot ⟨n, p, q, xs, ys, v, k⟩ (bodies vs) = BB at E2 ⊢
  generalize voO m bal slot ⟨n, p, q, xs, ys, v, k⟩ (bodies vs) = OO at EO ⊢
  generalize accOk m (bodies vs) = KK at CO E1 E2 EO L4
  obtain ⟨p0, p1⟩ := PW.out.cells2
  clear h1 l1 s1 s2 hW
  go_enter Try.func12, Try.ntmps12
  go_upto_region 1 with fail
  rw [← HW.out]
  go_wp2_with fail
  refine Calls.mono CO.out ?_
  rintro e w1 ⟨rfl, b1⟩
  have B1 : Hid (Below W.heap.size W w1) := b1
  have P1 : Hid (Blk w1 w.heap.size #[.int .i64 m, .slice a vs.length c] 25) := PW.out.keep b1
  have R1 : Hid (Blk w1 (w.heap.size + 1) #[.bool n, .int .i64 p, .int .i64 q, .slice a1 xs.length c1, .slice a2 ys.length c2, .int .i64 v, .int .i64 k] 33) := EW.out.keep b1
  have Z1 : Hid (Blk w1 (w.heap.size + 2) #[.int .i64 0, .slice none 0 0] 25) := ZW.out.keep b1
  have K1 : Hid (Below w.heap.size w w1) := BW.out.trans (b1.mono BW.out.size)
  have S1 : Hid (w.heap.size + 3 ≤ w1.heap.size) := by show _ ≤ _; have := SW.out; have := b1.size; omega
  have SE : Hid (Sl w1 a1 xs ∧ Sl w1 a2 ys) := ⟨SW1.out.1.below b1, SW1.out.2.below b1⟩
  clear b1 p0 p1 CO SW1
  cases KK with
  | false =>
    obtain ⟨z0, z1⟩ := Z1.out.cells2
    have fz := Z1.out.frozen
    go_wp2_with fail
    have zb := (((Z1.out.set 0 (.int .i64 0)).set 1 (.slice none 0 0)).eq (C' := #[.int .i64 0, .slice none 0 0]) (by simp)).cells2
    obtain ⟨y0, y1⟩ := zb
    refine bodyPost_ret (v := .tuple #[.agg #[.int .i64 0, .slice none 0 0], .bool false]) (by simp [results, Try.results12, go_sem, y0, y1]) rfl ?_
    exact ⟨_, [], by rw [E1.out, EO.out]; rfl, OwnC.nil _ _ _ _, E2.out.symm, (K1.out.setCell (by show w.heap.size ≤ w.heap.size + 2; omega) _).setCell (by show w.heap.size ≤ w.heap.size + 2; omega) _⟩
  | true =>
    have L40 : Hid (vs.length ≤ 40) := L4.out (by first | rfl | trivial)
    have CL : Hid (∀ V, Below w1.heap.size w1 V → Calls Try.prog 55 #[.agg #[.int .i64 m, .slice a vs.length c]] V fun e w' => ∃ lv us, e = .returned (.agg #[.int .i64 m, lv]) ∧ OwnL w' V.heap.size lv us ∧ bodies us = bodies vs ∧ Below V.heap.size V w') := fun V hV => l6Copy m a c vs V ((H1.out.below K1.out).below hV) L1.out nn
    have AF : Hid (∀ V, Below w1.heap.size w1 V → (V.cell? ⟨w.heap.size, 0, none⟩ = some (.int .i64 m) ∧ V.cell? ⟨w.heap.size, 1, none⟩ = some (.slice a vs.length c)) ∧ V.cell? ⟨w.heap.size + 1, 0, none⟩ = some (.bool n) ∧ V.cell? ⟨w.heap.size + 1, 1, none⟩ = some (.int .i64 p) ∧ V.cell? ⟨w.heap.size + 1, 2, none⟩ = some (.int .i64 q) ∧ V.cell? ⟨w.heap.size + 1, 3, none⟩ = some (.slice a1 xs.length c1) ∧ V.cell? ⟨w.heap.size + 1, 4, none⟩ = some (.slice a2 ys.length c2) ∧ V.cell? ⟨w.heap.size + 1, 5, none⟩ = some (.int .i64 v) ∧ V.cell? ⟨w.heap.size + 1, 6, none⟩ = some (.int .i64 k)) := fun V hV => ⟨(P1.out.keep hV).cells2, (R1.out.keep hV).cells7⟩
    obtain ⟨V, hV⟩ : ∃ V, V = w1.drew := ⟨_, rfl⟩
    have HV : Hid (V = w1.drew) := hV
    have BV : Hid (Below w1.heap.size w1 V) := by show Below _ _ _; rw [hV]; exact (Below.refl _ _).drew
    have FAR : Hid (∀ (w3 : World) (la : Option Addr) (nl lc : Nat) {us : List VM}, OwnL w3 V.heap.size (.slice la nl lc) us → ∀ (a' : Option Addr) (zs : List (Int × Int)), Sl w1 a' zs → ∀ x, a' = some x → zs ≠ [] → (Value.slice la nl lc).ownBlock ≠ some x.block) := fun w3 la nl lc us ho a' zs hs x ex hz e => by
      have h1 := ho.from x.block e
      rcases hs with h | ⟨b, off, hb, hat⟩
      · exact hz h
      · rw [hb] at ex
        injection ex with ex
        have h2 := hat.1
        have h3 := BV.out.size
        rw [← ex] at h1
        simp only at h1
        omega
    have pv := AF.out V BV.out
    have pu := AF.out w1 (Below.refl _ _)
    clear hV
    go_upto_region 3 with fail
    refine wp_region_held_drew (S := (fun w' : World => (w'.cell? ⟨w.heap.size, 0, none⟩ = some (.int .i64 m) ∧ w'.cell? ⟨w.heap.size, 1, none⟩ = some (.slice a vs.length c)) ∧ w'.cell? ⟨w.heap.size + 1, 0, none⟩ = some (.bool n) ∧ w'.cell? ⟨w.heap.size + 1, 1, none⟩ = some (.int .i64 p) ∧ w'.cell? ⟨w.heap.size + 1, 2, none⟩ = some (.int .i64 q) ∧ w'.cell? ⟨w.heap.size + 1, 3, none⟩ = some (.slice a1 xs.length c1) ∧ w'.cell? ⟨w.heap.size + 1, 4, none⟩ = some (.slice a2 ys.length c2) ∧ w'.cell? ⟨w.heap.size + 1, 5, none⟩ = some (.int .i64 v) ∧ w'.cell? ⟨w.heap.size + 1, 6, none⟩ = some (.int .i64 k))) (by kernel_rfl) pu (fun hHeld => ?_)
    rw [← HV.out]
    refine wpAnyH_take (i := 0) (v := ?vt0) rfl (by kernel_rfl) (by kernel_rfl) (by kernel_rfl) (fun _ _ _ h => h) (Or.inl ⟨by rfl, ?yt0⟩) (by assumption) ?rt0
    case yt0 =>
      intro w' hSw
      try dsimp only at hSw
      go_simp
      try with_reducible rfl
    simp only [Act.put, List.getElem_toArray, List.getElem_cons_succ, List.getElem_cons_zero, List.setIfInBounds_toArray, List.set_cons_zero, List.set_cons_succ]
    refine wpAnyH_take (i := 2) (v := ?vt2) rfl (by kernel_rfl) (by kernel_rfl) (by kernel_rfl) (fun _ _ _ h => h) (Or.inl ⟨by rfl, ?yt2⟩) (by assumption) ?rt2
    case yt2 =>
      intro w' hSw
      try dsimp only at hSw
      go_simp
      try with_reducible rfl
    simp only [Act.put, List.getElem_toArray, List.getElem_cons_succ, List.getElem_cons_zero, List.setIfInBounds_toArray, List.set_cons_zero, List.set_cons_succ]
    refine wpAnyH_take (i := 3) (v := ?vt3) rfl (by kernel_rfl) (by kernel_rfl) (by kernel_rfl) (fun _ _ _ h => h) (Or.inl ⟨by rfl, ?yt3⟩) (by assumption) ?rt3
    case yt3 =>
      intro w' hSw
      try dsimp only at hSw
      go_simp
      try with_reducible rfl
    simp only [Act.put, List.getElem_toArray, List.getElem_cons_succ, List.getElem_cons_zero, List.setIfInBounds_toArray, List.set_cons_zero, List.set_cons_succ]
    refine wpAnyH_take (i := 4) (v := ?vt4) rfl (by kernel_rfl) (by kernel_rfl) (by kernel_rfl) (fun _ _ _ h => h) (Or.inl ⟨by rfl, ?yt4⟩) (by assumption) ?rt4
    case yt4 =>
      intro w' hSw
      try dsimp only at hSw
      go_simp
      try with_reducible rfl
    simp only [Act.put, List.getElem_toArray, List.getElem_cons_succ, List.getElem_cons_zero, List.setIfInBounds_toArray, List.set_cons_zero, List.set_cons_succ]
    refine wpAnyH_ready (rs := [1]) (by kernel_rfl) (by simp) ?_
    refine AllReadyH.cons rfl (fun K hK => ?_) AllReadyH.nil
    go_simp
    refine Calls.mono (CL.out V BV.out) ?_
    rintro e w3 ⟨lv, us, rfl, o3, e3, b3⟩
    obtain ⟨la, lc, rfl⟩ := o3.form
    have O3 : Hid (OwnL w3 V.heap.size (.slice la us.length lc) us) := o3
    have E3 : Hid (bodies us = bodies vs) := e3
    have B3 : Hid (Below w1.heap.size w1 w3) := BV.out.trans (b3.mono BV.out.size)
    have S3 : Hid (V.heap.size ≤ w3.heap.size) := b3.size
    refine hK.out _ _ (AF.out w3 B3.out) (fun hH3 => ?_)
    clear hK K o3 e3 b3
    refine wpAnyH_ready (rs := [5]) (by kernel_rfl) (by simp) ?_
    refine AllReadyH.cons rfl (fun K hK => ?_) AllReadyH.nil
    have ul : us.length ≤ 2 ^ 29 := by have := congrArg List.length E3.out; rw [bodies_len, bodies_len] at this; have := L40.out; omega
    go_simp
    refine (l6Cast m la lc us bal slot n p q a1 a2 c1 c2 xs ys v k V.heap.size w3 O3.out S3.out ul (SE.out.1.below B3.out) (SE.out.2.below B3.out) n1 n2 hc1 hc2 (FAR.out w3 la us.length lc O3.out a1 xs SE.out.1) (FAR.out w3 la us.length lc O3.out a2 ys SE.out.2)).mono ?_
    rintro e w4 ⟨lv4, us4, rfl, o4, e4, b4⟩
    obtain ⟨la4, lc4, rfl⟩ := o4.form
    have O4 : Hid (OwnL w4 V.heap.size (.slice la4 us4.length lc4) us4) := o4
    have E4 : Hid (bodies us4 = if castOk m bal slot ⟨n, p, q, xs, ys, v, k⟩ then castB (bodies vs) slot.toNat (bal, ⟨n, p, q, xs, ys, v, k⟩) else bodies vs) := by show _ = _; rw [e4, E3.out]
    have B4 : Hid (Below w1.heap.size w1 w4) := B3.out.trans (b4.mono BV.out.size)
    refine hK.out _ _ (AF.out w4 B4.out) (fun hH4 => ?_)
    clear hK K o4 e4 b4
    have M4 : Hid (M = if castOk m bal slot ⟨n, p, q, xs, ys, v, k⟩ then bal else m) := E1.out
    have T4 : Hid (OO = castOk m bal slot ⟨n, p, q, xs, ys, v, k⟩) := EO.out
    have F4 : Hid (BB = if castOk m bal slot ⟨n, p, q, xs, ys, v, k⟩ then castB (bodies vs) slot.toNat (bal, ⟨n, p, q, xs, ys, v, k⟩) else bodies vs) := E2.out
    generalize (if castOk m bal slot ⟨n, p, q, xs, ys, v, k⟩ then castB (bodies vs) slot.toNat (bal, ⟨n, p, q, xs, ys, v, k⟩) else bodies vs) = BQ at E4 F4
    generalize (if castOk m bal slot ⟨n, p, q, xs, ys, v, k⟩ then bal else m) = PM at M4 ⊢
    generalize castOk m bal slot ⟨n, p, q, xs, ys, v, k⟩ = PO at T4 ⊢
    refine wpAnyH_take (i := 6) (v := ?vt6) rfl (by kernel_rfl) (by kernel_rfl) (by kernel_rfl) (fun _ _ _ h => h) (Or.inl ⟨by rfl, ?yt6⟩) (by assumption) ?rt6
    case yt6 =>
      intro w' hSw
      try dsimp only at hSw
      go_simp
      try with_reducible rfl
    simp only [Act.put, List.getElem_toArray, List.getElem_cons_succ, List.getElem_cons_zero, List.setIfInBounds_toArray, List.set_cons_zero, List.set_cons_succ]
    refine wpAnyH_take (i := 7) (v := ?vt7) rfl (by kernel_rfl) (by kernel_rfl) (by kernel_rfl) (fun _ _ _ h => h) (Or.inl ⟨by rfl, ?yt7⟩) (by assumption) ?rt7
    case yt7 =>
      intro w' hSw
      try dsimp only at hSw
      go_simp
      try with_reducible rfl
    simp only [Act.put, List.getElem_toArray, List.getElem_cons_succ, List.getElem_cons_zero, List.setIfInBounds_toArray, List.set_cons_zero, List.set_cons_succ]
    refine wpAnyH_ready (rs := [8]) (by kernel_rfl) (by simp) ?_
    refine AllReadyH.cons rfl (fun K hK => ?_) AllReadyH.nil
    have Z4 : Hid (Blk w4 (w.heap.size + 2) #[.int .i64 0, .slice none 0 0] 25) := Z1.out.keep B4.out
    obtain ⟨z0, z1⟩ := Z4.out.cells2
    have fz := Z4.out.frozen
    go_simp
    have on : Only (w.heap.size + 2) w4 ((w4.setCell ⟨w.heap.size + 2, 0, none⟩ (.int .i64 PM)).setCell ⟨w.heap.size + 2, 1, none⟩ (.slice la4 us4.length lc4)) := ((Only.refl _ _).setCell _).setCell _
    have ON : Hid (Only (w.heap.size + 2) w4 ((w4.setCell ⟨w.heap.size + 2, 0, none⟩ (.int .i64 PM)).setCell ⟨w.heap.size + 2, 1, none⟩ (.slice la4 us4.length lc4))) := on
    have C5 : Hid ((((w4.setCell ⟨w.heap.size + 2, 0, none⟩ (.int .i64 PM)).setCell ⟨w.heap.size + 2, 1, none⟩ (.slice la4 us4.length lc4)).cell? ⟨w.heap.size, 0, none⟩ = some (.int .i64 m) ∧ ((w4.setCell ⟨w.heap.size + 2, 0, none⟩ (.int .i64 PM)).setCell ⟨w.heap.size + 2, 1, none⟩ (.slice la4 us4.length lc4)).cell? ⟨w.heap.size, 1, none⟩ = some (.slice a vs.length c)) ∧ ((w4.setCell ⟨w.heap.size + 2, 0, none⟩ (.int .i64 PM)).setCell ⟨w.heap.size + 2, 1, none⟩ (.slice la4 us4.length lc4)).cell? ⟨w.heap.size + 1, 0, none⟩ = some (.bool n) ∧ ((w4.setCell ⟨w.heap.size + 2, 0, none⟩ (.int .i64 PM)).setCell ⟨w.heap.size + 2, 1, none⟩ (.slice la4 us4.length lc4)).cell? ⟨w.heap.size + 1, 1, none⟩ = some (.int .i64 p) ∧ ((w4.setCell ⟨w.heap.size + 2, 0, none⟩ (.int .i64 PM)).setCell ⟨w.heap.size + 2, 1, none⟩ (.slice la4 us4.length lc4)).cell? ⟨w.heap.size + 1, 2, none⟩ = some (.int .i64 q) ∧ ((w4.setCell ⟨w.heap.size + 2, 0, none⟩ (.int .i64 PM)).setCell ⟨w.heap.size + 2, 1, none⟩ (.slice la4 us4.length lc4)).cell? ⟨w.heap.size + 1, 3, none⟩ = some (.slice a1 xs.length c1) ∧ ((w4.setCell ⟨w.heap.size + 2, 0, none⟩ (.int .i64 PM)).setCell ⟨w.heap.size + 2, 1, none⟩ (.slice la4 us4.length lc4)).cell? ⟨w.heap.size + 1, 4, none⟩ = some (.slice a2 ys.length c2) ∧ ((w4.setCell ⟨w.heap.size + 2, 0, none⟩ (.int .i64 PM)).setCell ⟨w.heap.size + 2, 1, none⟩ (.slice la4 us4.length lc4)).cell? ⟨w.heap.size + 1, 5, none⟩ = some (.int .i64 v) ∧ ((w4.setCell ⟨w.heap.size + 2, 0, none⟩ (.int .i64 PM)).setCell ⟨w.heap.size + 2, 1, none⟩ (.slice la4 us4.length lc4)).cell? ⟨w.heap.size + 1, 6, none⟩ = some (.int .i64 k)) := by
      have h4 := AF.out w4 B4.out
      show (_ ∧ _) ∧ _
      rw [on.cell (by simp), on.cell (by simp), on.cell (by simp), on.cell (by simp), on.cell (by simp), on.cell (by simp), on.cell (by simp), on.cell (by simp), on.cell (by simp)]
      exact h4
    have zb : Hid (Blk ((w4.setCell ⟨w.heap.size + 2, 0, none⟩ (.int .i64 PM)).setCell ⟨w.heap.size + 2, 1, none⟩ (.slice la4 us4.length lc4)) (w.heap.size + 2) #[.int .i64 PM, .slice la4 us4.length lc4] 25) := ((Z4.out.set 0 (.int .i64 PM)).set 1 (.slice la4 us4.length lc4)).eq (by simp)
    refine hK.out _ _ C5.out (fun hH5 => ?_)
    clear hK K on
    obtain ⟨W5, hW5⟩ : ∃ W5, W5 = ((w4.setCell ⟨w.heap.size + 2, 0, none⟩ (.int .i64 PM)).setCell ⟨w.heap.size + 2, 1, none⟩ (.slice la4 us4.length lc4)) := ⟨_, rfl⟩
    rw [← hW5] at ON C5 zb hH5 ⊢
    clear hW5
    refine wpAnyH_ready (rs := [9]) (by kernel_rfl) (by simp) ?_
    refine AllReadyH.cons rfl (fun K hK => ?_) AllReadyH.nil
    go_simp
    refine hK.out _ _ C5.out (fun hHx => ?_)
    refine wpAnyH_done (by kernel_rfl) ?_ _
    have y01 := zb.out.cells2
    obtain ⟨y0, y1⟩ := y01
    clear hK K hHx hH5 hHeld hH3 hH4 z0 z1 fz
    go_wp2_with fail
    refine bodyPost_ret (v := .tuple #[.agg #[.int .i64 PM, .slice la4 us4.length lc4], .bool PO]) (by simp [results, Try.results12, go_sem, y0, y1]) rfl ?_
    have s1 := S1.out
    have sv := BV.out.size
    exact ⟨_, us4, by rw [M4.out, T4.out], OwnC.ofL ((O4.out.high (Nat.le_of_eq ON.out.size.symm) fun b hb => ON.out.block b (by omega)).low (by omega)), E4.out.trans F4.out.symm, K1.out.trans ((B4.out.mono (by omega)).trans (ON.out.below (by omega)))⟩
end Go.Proofs.Ytfifiobcmdmefaa.Own

namespace Go.Proofs.Ytfifiobcmdmefaa.Own
open Go.RowKit
set_option linter.unusedVariables false
set_option linter.unusedSimpArgs false

def VoteT (f : FuncId) (m bal slot : Int) (x : EB) (bs : List V) : Prop := ∀ (V : World) (B T : Nat) (v : Value) (L : List VM) (a1 a2 : Option Addr) (c1 c2 : Nat), OwnR V B T v L → VLs L → L.length ≤ 2 ^ 29 → bodies L = bs → Sl V a1 x.xs → Sl V a2 x.ys → x.xs.length ≤ 2 ^ 40 → x.ys.length ≤ 2 ^ 40 → x.xs.length ≤ c1 → x.ys.length ≤ c2 →
    Calls Try.prog f #[.agg #[.int .i64 m, v], .int .i64 bal, .int .i64 slot, .agg #[.bool x.n, .int .i64 x.p, .int .i64 x.q, .slice a1 x.xs.length c1, .slice a2 x.ys.length c2, .int .i64 x.v, .int .i64 x.k]] V fun e w' => ∃ la lc us, e = .returned (.tuple #[.agg #[.int .i64 (voM m bal slot x bs), .slice la (List.length (α := VM) us) lc], .bool (voO m bal slot x bs)]) ∧ OwnR w' V.heap.size w'.heap.size (.slice la us.length lc) us ∧ bodies us = voB m bal slot x bs ∧ Below V.heap.size V w'
theorem voteTS (m bal slot : Int) (x : EB) (bs : List V) : VoteT 12 m bal slot x bs := fun V B T v L a1 a2 c1 c2 h l n hb s1 s2 n1 n2 k1 k2 => by
  obtain ⟨a, c, rfl, s⟩ := h.form
  subst hb
  refine (specAccVote m a c L bal slot x.n x.p x.q a1 a2 c1 c2 x.xs x.ys x.v x.k V s l (by omega) s1 s2 n1 n2 k1 k2).mono ?_
  rintro e w' ⟨lv, us, rfl, ho, hu, hw⟩
  obtain ⟨la, lc, rfl, _⟩ := ho.1.form
  exact ⟨la, lc, us, rfl, ho.1, hu, hw⟩
theorem voteTI (m bal slot : Int) (x : EB) (bs : List V) : VoteT 11 m bal slot x bs := fun V B T v L a1 a2 c1 c2 h l n hb s1 s2 n1 n2 k1 k2 => by
  obtain ⟨a, c, rfl, s⟩ := h.form
  subst hb
  refine (implVote m a c L bal slot x.n x.p x.q a1 a2 c1 c2 x.xs x.ys x.v x.k V s l n s1 s2 n1 n2).mono ?_
  rintro e w' ⟨lv, us, rfl, ho, hu, hw⟩
  obtain ⟨la, lc, rfl, _⟩ := ho.1.form
  exact ⟨la, lc, us, rfl, ho.1, hu, hw⟩

end Go.Proofs.Ytfifiobcmdmefaa.Own

namespace Go.Proofs.Ytfifiobcmdmefaa.Own
open Go.RowKit
set_option linter.unusedVariables false
set_option linter.unusedSimpArgs false

theorem LV.of {w : World} {B T K : Nat} {v : Value} {N : List VM} {C : List V} (h : OwnC w B T v N) (hb : bodies N = C) (hs : Short 4 C) (hl : C.length ≤ 40) : LV w B T v N :=
  ⟨h.1, h.2, by rw [hb]; exact hs, by rw [← bodies_len, hb]; exact hl⟩
theorem promVI {B T : Nat} {v : Value} {L : List VM} {w : World} (h : LV w B T v L) (m bal : Int) (A : List V) (hA : bodies L = A) (K : Nat) (hK : (prB m A).length = K) :
    Calls Try.prog 13 #[.agg #[.int .i64 m, v], .int .i64 bal] w fun e w' => ∃ a c N, e = .returned (.tuple #[.agg #[.int .i64 (prM m bal A), .slice a K c], .bool (prO m bal A)]) ∧ N.length = K ∧ bodies N = prB m A ∧ LV w' w.heap.size w'.heap.size (.slice a K c) N ∧ Below w.heap.size w w' := by
  obtain ⟨a, c, rfl, s⟩ := h.own.form
  subst hA
  refine (implPromise m a c L bal w s h.vls (by have := h.len; omega)).mono ?_
  rintro e w' ⟨lv, N, rfl, ho, hb, hw⟩
  obtain ⟨a', c', rfl, _⟩ := ho.1.form
  have hl : N.length = K := by rw [← bodies_len, hb, hK]
  rw [hl] at ho ⊢
  exact ⟨a', c', N, rfl, hl, hb, LV.of (K := K) ho hb (prB_short h.short) (prB_len _ _), hw⟩
theorem promVS {B T : Nat} {v : Value} {L : List VM} {w : World} (h : LV w B T v L) (m bal : Int) (A : List V) (hA : bodies L = A) (K : Nat) (hK : (prB m A).length = K) :
    Calls Try.prog 14 #[.agg #[.int .i64 m, v], .int .i64 bal] w fun e w' => ∃ a c N, e = .returned (.tuple #[.agg #[.int .i64 (prM m bal A), .slice a K c], .bool (prO m bal A)]) ∧ N.length = K ∧ bodies N = prB m A ∧ LV w' w.heap.size w'.heap.size (.slice a K c) N ∧ Below w.heap.size w w' := by
  obtain ⟨a, c, rfl, s⟩ := h.own.form
  subst hA
  refine (specPromise m a c L bal w s h.vls (by have := h.len; omega)).mono ?_
  rintro e w' ⟨lv, N, rfl, ho, hb, hw⟩
  obtain ⟨a', c', rfl, _⟩ := ho.1.form
  have hl : N.length = K := by rw [← bodies_len, hb, hK]
  rw [hl] at ho ⊢
  exact ⟨a', c', N, rfl, hl, hb, LV.of (K := K) ho hb (prB_short h.short) (prB_len _ _), hw⟩
theorem voteVI {B T : Nat} {v : Value} {L : List VM} {w : World} (h : LV w B T v L) (m bal slot : Int) (x : EB) {a1 a2 : Option Addr} {c1 c2 : Nat} (s1 : Sl w a1 x.xs) (s2 : Sl w a2 x.ys) (k1 : x.xs.length ≤ c1) (k2 : x.ys.length ≤ c2) (l1 : x.xs.length ≤ 4) (l2 : x.ys.length ≤ 4) (A : List V) (hA : bodies L = A) (K : Nat) (hK : (voB m bal slot x A).length = K) :
    Calls Try.prog 11 #[.agg #[.int .i64 m, v], .int .i64 bal, .int .i64 slot, .agg #[.bool x.n, .int .i64 x.p, .int .i64 x.q, .slice a1 x.xs.length c1, .slice a2 x.ys.length c2, .int .i64 x.v, .int .i64 x.k]] w fun e w' => ∃ a c N, e = .returned (.tuple #[.agg #[.int .i64 (voM m bal slot x A), .slice a K c], .bool (voO m bal slot x A)]) ∧ N.length = K ∧ bodies N = voB m bal slot x A ∧ LV w' w.heap.size w'.heap.size (.slice a K c) N ∧ Below w.heap.size w w' := by
  obtain ⟨a, c, rfl, s⟩ := h.own.form
  subst hA
  refine (implVote m a c L bal slot x.n x.p x.q a1 a2 c1 c2 x.xs x.ys x.v x.k w s h.vls (by have := h.len; omega) s1 s2 (by omega) (by omega)).mono ?_
  rintro e w' ⟨lv, N, rfl, ho, hb, hw⟩
  obtain ⟨a', c', rfl, _⟩ := ho.1.form
  have hb' : bodies N = voB m bal slot x (bodies L) := hb
  have hl : N.length = K := by rw [← bodies_len, hb', hK]
  rw [hl] at ho ⊢
  exact ⟨a', c', N, rfl, hl, hb', LV.of (K := K) ho hb' (voB_short h.short ⟨l1, l2⟩) (voB_len _ _ _ _ _), hw⟩
theorem voteVS {B T : Nat} {v : Value} {L : List VM} {w : World} (h : LV w B T v L) (m bal slot : Int) (x : EB) {a1 a2 : Option Addr} {c1 c2 : Nat} (s1 : Sl w a1 x.xs) (s2 : Sl w a2 x.ys) (k1 : x.xs.length ≤ c1) (k2 : x.ys.length ≤ c2) (l1 : x.xs.length ≤ 4) (l2 : x.ys.length ≤ 4) (A : List V) (hA : bodies L = A) (K : Nat) (hK : (voB m bal slot x A).length = K) :
    Calls Try.prog 12 #[.agg #[.int .i64 m, v], .int .i64 bal, .int .i64 slot, .agg #[.bool x.n, .int .i64 x.p, .int .i64 x.q, .slice a1 x.xs.length c1, .slice a2 x.ys.length c2, .int .i64 x.v, .int .i64 x.k]] w fun e w' => ∃ a c N, e = .returned (.tuple #[.agg #[.int .i64 (voM m bal slot x A), .slice a K c], .bool (voO m bal slot x A)]) ∧ N.length = K ∧ bodies N = voB m bal slot x A ∧ LV w' w.heap.size w'.heap.size (.slice a K c) N ∧ Below w.heap.size w w' := by
  obtain ⟨a, c, rfl, s⟩ := h.own.form
  subst hA
  refine (specAccVote m a c L bal slot x.n x.p x.q a1 a2 c1 c2 x.xs x.ys x.v x.k w s h.vls (by have := h.len; omega) s1 s2 (by omega) (by omega) k1 k2).mono ?_
  rintro e w' ⟨lv, N, rfl, ho, hb, hw⟩
  obtain ⟨a', c', rfl, _⟩ := ho.1.form
  have hb' : bodies N = voB m bal slot x (bodies L) := hb
  have hl : N.length = K := by rw [← bodies_len, hb', hK]
  rw [hl] at ho ⊢
  exact ⟨a', c', N, rfl, hl, hb', LV.of (K := K) ho hb' (voB_short h.short ⟨l1, l2⟩) (voB_len _ _ _ _ _), hw⟩
end Go.Proofs.Ytfifiobcmdmefaa.Own

namespace Go.Proofs.Ytfifiobcmdmefaa.Own
open Go.RowKit
set_option linter.unusedVariables false
set_option linter.unusedSimpArgs false

theorem LV.setLow {w : World} {B T : Nat} {v : Value} {L : List VM} (h : LV w B T v L) {p : Addr} (hp : p.block < B) (x : Value) : LV (w.setCell p x) B T v L :=
  ⟨h.own.keepIn (by simp [World.setCell]) fun b hB _ => Below.heap_setCell _ _ _ _ (by omega), h.cap, h.short, h.len⟩
/-- An acceptor, its votes of one's own. -/
def OkD (w : World) (e : Ending) (w' : World) : Prop := ∃ m la lc us, e = .returned (.agg #[.int .i64 m, .slice la (List.length (α := VM) us) lc]) ∧ LV w' w.heap.size w'.heap.size (.slice la us.length lc) us ∧ -1 ≤ m ∧ m ≤ 3001 ∧ Below w.heap.size w w'

set_option maxRecDepth 100000 in
set_option maxHeartbeats 4000000 in
theorem drawAccOk (a : Option Addr) (n c : Nat) (w : World) (h : Bytes w w.heap.size a n) (hc : n ≤ c) (hm : c ≤ maxLen) :
    Calls Try.prog 28 #[.slice a n c] w fun e w' => OkD w e w' := by
  have HB : Hid (Bytes w w.heap.size a n) := h
  have HM : Hid (c ≤ maxLen) := hm
  clear h hm
  obtain ⟨W, hW⟩ : ∃ W, W = w.alloc (.cells #[.int .i64 0, .slice none 0 0] 25) := ⟨_, rfl⟩
  have EW : Hid (W = w.alloc (.cells #[.int .i64 0, .slice none 0 0] 25)) := hW
  have ZW : Hid (W.heap.size = w.heap.size + 1) := by show _ = _; rw [hW, size_new]
  have KW : Hid (Below w.heap.size w W) := by show Below _ _ _; rw [hW]; exact (Below.refl _ _).alloc (Nat.le_refl _) _
  have CW : Hid (Blk W w.heap.size #[.int .i64 0, .slice none 0 0] 25) := by show Blk _ _ _ _; rw [hW]; exact Blk.new _ _ _
  clear hW
  go_enter Try.func28, Try.ntmps28
  go_upto_region 1 with fail
  rw [← EW.out]
  clear EW
  go_wp2_with fail
  refine (l15Open a n c W (HB.out.belowA KW.out) hc HM.out).mono ?_
  rintro e w1 ⟨rfl, hR, hb⟩
  have D1 : Hid (Rd w1 W.heap.size (W.heap.size + 1) 0) := hR
  have B1 : Hid (Below W.heap.size W w1) := hb
  have S1 : Hid (W.heap.size + 1 ≤ w1.heap.size) := hR.2.1
  have C1 : Hid (Blk w1 w.heap.size #[.int .i64 0, .slice none 0 0] 25) := CW.out.keep hb
  clear hR hb
  go_wp2_with fail
  refine (l6Acc W.heap.size (W.heap.size + 1) 0 w1 D1.out (by omega)).mono ?_
  rintro e w2 ⟨m, la, lc, us, rfl, ho, lu, su, m0, m1, ⟨p', hp, hr⟩, hbar⟩
  have C2 : Hid (Blk w2 w.heap.size #[.int .i64 0, .slice none 0 0] 25) := C1.out.bar1 hbar (by have := ZW.out; omega)
  obtain ⟨z0, z1⟩ := C2.out.cells2
  have fr := C2.out.frozen
  have K2 : Hid (Below w.heap.size w w2) := KW.out.trans ((B1.out.mono (by have := ZW.out; omega)).trans (hbar.below (by have := ZW.out; omega) (by have := ZW.out; have := S1.out; omega)))
  obtain ⟨V, hV⟩ : ∃ V, V = (w2.setCell ⟨w.heap.size, 0, none⟩ (.int .i64 m)).setCell ⟨w.heap.size, 1, none⟩ (.slice la us.length lc) := ⟨_, rfl⟩
  have EV : Hid (V = (w2.setCell ⟨w.heap.size, 0, none⟩ (.int .i64 m)).setCell ⟨w.heap.size, 1, none⟩ (.slice la us.length lc)) := hV
  have CV : Hid (Blk V w.heap.size #[.int .i64 m, .slice la us.length lc] 25) := by
    show Blk _ _ _ _
    rw [hV]
    exact ((C2.out.set 0 _).set 1 _).eq (by simp)
  have F : Hid (OkD w (.returned (.agg #[.int .i64 m, .slice la us.length lc])) V) := by
    refine ⟨m, la, lc, us, rfl, ?_, m0, m1, ?_⟩
    · have := ho.lv (B' := w.heap.size + 1) (by have := ZW.out; have := S1.out; omega) su (by omega)
      rw [hV]
      have e := (this.setLow (p := ⟨w.heap.size, 0, none⟩) (Nat.lt_succ_self _) (.int .i64 m)).setLow (p := ⟨w.heap.size, 1, none⟩) (Nat.lt_succ_self _) (.slice la us.length lc)
      have sz : ((w2.setCell ⟨w.heap.size, 0, none⟩ (.int .i64 m)).setCell ⟨w.heap.size, 1, none⟩ (.slice la us.length lc)).heap.size = w2.heap.size := by simp [World.setCell]
      rw [sz]
      exact e.weaken (Nat.le_succ _)
    · rw [hV]
      exact (K2.out.setCell (Nat.le_refl _) _).setCell (Nat.le_refl _) _
  clear ho lu su m0 m1 hp hr hbar
  go_wp2_with fail
  rw [← EV.out]
  obtain ⟨c0, c1⟩ := CV.out.cells2
  refine bodyPost_ret (v := .agg #[.int .i64 m, .slice la us.length lc]) (by simp [results, Try.results28, go_sem, c0, c1]) rfl ?_
  exact F.out
end Go.Proofs.Ytfifiobcmdmefaa.Own

namespace Go.Proofs.Ytfifiobcmdmefaa.Own
open Go.RowKit
set_option linter.unusedVariables false
set_option linter.unusedSimpArgs false

theorem getD_pastV {A : List V} {i : Nat} (h : A.length ≤ i) : A.getD i (0, e0) = (0, e0) := by simp [List.getD, List.getElem?_eq_none h]
theorem bestAt_bal {A B : List V} (h1 : votesOk A = true) (i : Nat) : (bestAt A B i).1 = max (A.getD i (0, e0)).1 (B.getD i (0, e0)).1 := by
  have a := (voteOk_bal (votesOk_at h1 i)).1
  unfold bestAt
  by_cases hi : i < B.length
  · by_cases hl : (A.getD i (0, e0)).1 < (B.getD i (0, e0)).1
    · rw [if_pos ⟨hi, hl⟩]; omega
    · rw [if_neg (fun h => hl h.2)]; omega
  · rw [if_neg (fun h => hi h.1)]
    rw [getD_pastV (A := B) (by omega)] 
    simp only; omega
theorem best_bal {A B : List V} (h1 : votesOk A = true) (h2 : votesOk B = true) (i : Nat) : ((bestOf A B).getD i (0, e0)).1 = max (A.getD i (0, e0)).1 (B.getD i (0, e0)).1 := by
  obtain ⟨l, g⟩ := bestOf_of h1 h2
  by_cases hi : i < max A.length B.length
  · rw [g i hi, bestAt_bal h1]
  · rw [getD_pastV (by omega), getD_pastV (A := A) (by omega), getD_pastV (A := B) (by omega)]
    rfl
theorem merge_math {A B C : List V} (h : 0 < (bestOf A B).length) (h2 : 0 < (bestOf (bestOf A B) C).length) :
    (bestOf A (bestOf B C)).length = (bestOf (bestOf A B) C).length ∧ (∀ i, ((bestOf A (bestOf B C)).getD i (0, e0)).1 = ((bestOf (bestOf A B) C).getD i (0, e0)).1) ∧ bestOf A A = A := by
  obtain ⟨oA, oB⟩ := bestOf_ok h
  obtain ⟨oX, oC⟩ := bestOf_ok h2
  have oY := bestOf_right oB oC
  have l1 := (bestOf_of oA oB).1
  have l2 := (bestOf_of oX oC).1
  have l3 := (bestOf_of oB oC).1
  have l4 := (bestOf_of oA oY).1
  refine ⟨by omega, fun i => ?_, ?_⟩
  · rw [best_bal oA oY, best_bal oB oC, best_bal oX oC, best_bal oA oB]; omega
  · obtain ⟨l, g⟩ := bestOf_of oA oA
    apply List.ext_getElem
    · omega
    · intro i h1 h2
      have e := g i (by omega)
      have e2 : bestAt A A i = A.getD i (0, e0) := by
        unfold bestAt
        rw [if_neg (fun h => by omega)]
      rw [e2] at e
      simpa [List.getD, h1, h2] using e
theorem likeE_self (x : EB) : likeE x.n x.n (x.p, x.q) (x.p, x.q) x.xs x.ys x.xs x.ys x.v x.k x.v x.k = true := by
  simp [likeE, eq2, sameRun]
/-- The best of right votes is at each place of the greater ballot. -/
theorem best_ge {A B : List V} (h1 : votesOk A = true) (h2 : votesOk B = true) (i : Nat) : (A.getD i (0, e0)).1 ≤ ((bestOf A B).getD i (0, e0)).1 ∧ (B.getD i (0, e0)).1 ≤ ((bestOf A B).getD i (0, e0)).1 := by
  rw [best_bal h1 h2]; omega
end Go.Proofs.Ytfifiobcmdmefaa.Own

namespace Go.Proofs.Ytfifiobcmdmefaa.Own
open Go.RowKit
set_option linter.unusedVariables false
set_option linter.unusedSimpArgs false

theorem accOk_up {m : Int} {A : List V} (h0 : 0 ≤ m) (h1 : m ≤ 3000) : accOk m A = true ↔ votesOk A = true ∧ ∀ i, (A.getD i (0, e0)).1 ≤ m := by
  constructor
  · intro h
    obtain ⟨_, _, h3, h4⟩ := accOk_iff h
    exact ⟨h3, getD_le h0 h4⟩
  · rintro ⟨h3, h4⟩
    unfold accOk
    simp only [Bool.and_eq_true, decide_eq_true_eq, List.all_eq_true]
    refine ⟨⟨⟨h0, h1⟩, h3⟩, fun x hx => ?_⟩
    obtain ⟨i, hi, rfl⟩ := List.mem_iff_getElem.1 hx
    have := h4 i
    simpa [List.getD, hi] using this
theorem accOk_prom {m b : Int} {A : List V} (h : accOk m A = true) (hb : m ≤ b) (h3 : b ≤ 3000) : accOk b A = true := by
  obtain ⟨h0, h1, _⟩ := accOk_iff h
  obtain ⟨a1, a2⟩ := (accOk_up h0 h1).1 h
  exact (accOk_up (by omega) h3).2 ⟨a1, fun i => by have := a2 i; omega⟩
theorem castB_ok {A : List V} {s : Nat} {x : V} (h : votesOk A = true) (hs : s < 40) (hx : voteOk x = true) : votesOk (castB A s x) = true := by
  have := ((votesOk_iff A).1 h).1
  refine (votesOk_iff _).2 ⟨by rw [castB_lenV]; omega, fun i hi => ?_⟩
  rw [castB_at]
  split
  · exact hx
  · exact votesOk_at h i
theorem accOk_cast {m b slot : Int} {x : EB} {A : List V} (h : accOk m A = true) (hc : castOk m b slot x = true) : accOk b (castB A slot.toNat (b, x)) = true := by
  obtain ⟨h0, h1, _⟩ := accOk_iff h
  obtain ⟨a1, a2⟩ := (accOk_up h0 h1).1 h
  have hp := castOk_place hc
  unfold castOk promOk at hc
  simp only [Bool.and_eq_true, decide_eq_true_eq] at hc
  have hb := isBal_iff.1 hc.1.1
  have hv : voteOk (b, x) = true := by
    unfold voteOk
    rw [if_neg (by simp only; omega)]
    simp only [Bool.and_eq_true]
    exact ⟨hc.1.1, hc.2.2⟩
  refine (accOk_up (by omega) hb.2).2 ⟨castB_ok a1 (by omega) hv, fun i => ?_⟩
  rw [castB_at]
  split
  · exact Int.le_refl _
  · have := a2 i; have := hc.1.2; omega
/-- One turn of FnAccKeep: a promise. -/
theorem keep_prom {m b : Int} {A : List V} (h : accOk m A = true) (h1 : 1 ≤ b) (h3 : b ≤ 3000) :
    prB m A = A ∧ (m ≤ b → prM m b A = b ∧ prO m b A = true ∧ accOk b A = true) ∧ (¬ m ≤ b → prM m b A = m ∧ prO m b A = false) := by
  have hb : isBal b = true := isBal_iff.2 ⟨h1, h3⟩
  refine ⟨by unfold prB; rw [if_pos h], fun hm => ⟨?_, ?_, accOk_prom h hm h3⟩, fun hm => ⟨?_, ?_⟩⟩
  · unfold prM promTo; rw [if_pos h, hb]; simp [hm]
  · unfold prO promOk; rw [h, hb]; simp [hm]
  · unfold prM promTo; rw [if_pos h, hb]; simp [hm]
  · unfold prO promOk; rw [h, hb]; simp [hm]
/-- One turn of FnAccKeep: a vote for no entry. -/
theorem keep_vote {m b : Int} {s : Nat} {A : List V} (h : accOk m A = true) (h1 : 1 ≤ b) (h3 : b ≤ 3000) (hs : s < 40) :
    (m ≤ b → voM m b s eN A = b ∧ voO m b s eN A = true ∧ voB m b s eN A = castB A s (b, eN) ∧ accOk b (castB A s (b, eN)) = true) ∧ (¬ m ≤ b → voM m b s eN A = m ∧ voO m b s eN A = false ∧ voB m b s eN A = A) := by
  have hb : isBal b = true := isBal_iff.2 ⟨h1, h3⟩
  have hc : castOk m b s eN = decide (m ≤ b) := by
    unfold castOk promOk
    rw [hb, right_eN]
    have : decide ((0 : Int) ≤ (s : Int)) = true := by simp
    have h2 : decide ((s : Int) < 40) = true := by simp; omega
    rw [this, h2]; simp
  constructor
  · intro hm
    have hc' : castOk m b s eN = true := by rw [hc]; simpa using hm
    have := accOk_cast h hc'
    refine ⟨?_, ?_, ?_, this⟩
    · unfold voM; rw [if_pos h, if_pos hc']
    · unfold voO; rw [h, hc']; rfl
    · unfold voB; rw [if_pos h, if_pos hc']; rfl
  · intro hm
    have hc' : ¬ castOk m b s eN = true := by rw [hc]; simpa using hm
    refine ⟨?_, ?_, ?_⟩
    · unfold voM; rw [if_pos h, if_neg hc']
    · unfold voO; rw [h]; simpa using hc'
    · unfold voB; rw [if_pos h, if_neg hc']
theorem accOk_zero : accOk 0 [] = true := by rfl
theorem sameVs_self (A : List V) : sameVs A A = true := by
  unfold sameVs
  simp only [decide_true, Bool.true_and, List.all_eq_true]
  intro i hi
  unfold sameV
  simp only [beq_self_eq_true, Bool.true_and]
  exact likeE_self _
end Go.Proofs.Ytfifiobcmdmefaa.Own

namespace Go.Proofs.Ytfifiobcmdmefaa.Own
open Go.RowKit
set_option linter.unusedVariables false
set_option linter.unusedSimpArgs false

set_option maxRecDepth 100000 in
set_option maxHeartbeats 4000000 in
theorem equalVotes (a b : Option Addr) (c d : Nat) (vs us : List VM) (w : World) (h1 : SlV w a vs) (h2 : SlV w b us) (hn : vs.length ≤ 2 ^ 40) (hm : us.length ≤ 2 ^ 40) (hl1 : VLs vs) (hl2 : VLs us) :
    Calls Try.prog 57 #[.slice a vs.length c, .slice b us.length d, .func (.func 58) #[] #[]] w fun e w' => e = .returned (.bool (sameVs (bodies vs) (bodies us))) ∧ Below w.heap.size w w' := by
  have H1 : Hid (SlV w a vs) := h1
  have H2 : Hid (SlV w b us) := h2
  have L1 : Hid (VLs vs) := hl1
  have L2 : Hid (VLs us) := hl2
  clear h1 h2 hl1 hl2
  have E1 : Hid (vs.length ≠ us.length → sameVs (bodies vs) (bodies us) = false) := fun h => sameVs_len (by rw [bodies_len, bodies_len]; exact h)
  have E2 : Hid (∀ i, i < vs.length → sameV (vs.getD i v0).body (us.getD i v0).body = false → sameVs (bodies vs) (bodies us) = false) := fun i hi h => sameVs_not (i := i) (by rw [bodies_len]; exact hi) (by rw [bodies_getD, bodies_getD]; exact h)
  have E3 : Hid (vs.length = us.length → (∀ i, i < vs.length → sameV (vs.getD i v0).body (us.getD i v0).body = true) → sameVs (bodies vs) (bodies us) = true) := fun h h2 => sameVs_all (by rw [bodies_len, bodies_len]; exact h) (fun i hi => by rw [bodies_getD, bodies_getD]; exact h2 i (by rw [bodies_len] at hi; exact hi))
  generalize sameVs (bodies vs) (bodies us) = T at E1 E2 E3 ⊢
  by_cases hlen : vs.length = us.length
  · have HE : Hid (vs.length = us.length) := hlen
    rw [← hlen]
    have hne : ((vs.length : Int) != (vs.length : Int)) = false := by simp
    clear hlen E1
    go_enter Try.func57, Try.ntmps57
    go_wp2_with fail
    go_loopw [17] (fun i wr => ∃ k : Nat, k ≤ vs.length ∧ i = .int .i64 k ∧ Hid (∀ j, j < k → sameV (vs.getD j v0).body (us.getD j v0).body = true) ∧ Hid (Below w.heap.size w wr)) (fun i _ => vs.length - (intOf i).toNat)
    case atStart => exact ⟨0, Nat.zero_le _, rfl, fun j hj => by omega, Below.refl _ _⟩
    case round =>
      obtain ⟨k, hk, rfl, HA, KR⟩ := hrel
      by_cases hlt : k < vs.length
      · have hki : (k : Int) < (vs.length : Int) := by omega
        have hlt2 : k < us.length := by rw [← HE.out]; exact hlt
        rcases H1.out.below KR.out with hh | ⟨b1, o1, rfl, hb1, hh⟩
        · rw [hh] at hlt; simp at hlt
        rcases H2.out.below KR.out with hg | ⟨b2, o2, rfl, hb2, hg⟩
        · rw [hg] at hlt2; simp at hlt2
        obtain ⟨⟨d0, d1, d2, d3, d4, d5, d6, d7⟩, s1, s2⟩ := hh k hlt
        obtain ⟨⟨f0, f1, f2, f3, f4, f5, f6, f7⟩, t1, t2⟩ := hg k hlt2
        have lx := L1.out k hlt
        have ly := L2.out k hlt2
        have SX : Hid (Sl wr (vs.getD k v0).a1 (vs.getD k v0).b.xs ∧ Sl wr (vs.getD k v0).a2 (vs.getD k v0).b.ys) := ⟨s1, s2⟩
        have SY : Hid (Sl wr (us.getD k v0).a1 (us.getD k v0).b.xs ∧ Sl wr (us.getD k v0).a2 (us.getD k v0).b.ys) := ⟨t1, t2⟩
        have NX : Hid (∀ r, sameV (vs.getD k v0).body (us.getD k v0).body = r → (r = false → T = false) ∧ (r = true → ∀ j, j < k + 1 → sameV (vs.getD j v0).body (us.getD j v0).body = true)) := fun r hr => ⟨fun h => E2.out k hlt (by rw [hr, h]), fun h j hj => by
          by_cases e : j = k
          · subst e; rw [hr, h]
          · exact HA.out j (by omega)⟩
        clear hh hg s1 s2 t1 t2
        obtain ⟨x, hx⟩ : ∃ x, x = vs.getD k v0 := ⟨_, rfl⟩
        obtain ⟨y, hy⟩ : ∃ y, y = us.getD k v0 := ⟨_, rfl⟩
        rw [← hx] at d0 d1 d2 d3 d4 d5 d6 d7 lx SX
        rw [← hy] at f0 f1 f2 f3 f4 f5 f6 f7 ly SY
        have NX2 : Hid (∀ r, sameV x.body y.body = r → (r = false → T = false) ∧ (r = true → ∀ j, j < k + 1 → sameV (vs.getD j v0).body (us.getD j v0).body = true)) := fun r hr => NX.out r (by rw [← hx, ← hy]; exact hr)
        clear NX hx hy
        obtain ⟨xbal, ⟨xn, xp, xq, xxs, xys, xv, xk⟩, xa1, xc1, xa2, xc2⟩ := x
        obtain ⟨ybal, ⟨yn, yp, yq, yxs, yys, yv, yk⟩, ya1, yc1, ya2, yc2⟩ := y
        simp only [VM.body] at d0 d1 d2 d3 d4 d5 d6 d7 f0 f1 f2 f3 f4 f5 f6 f7 lx ly SX SY NX2
        obtain ⟨X, hX⟩ : ∃ X, X = wr.alloc (.cells #[.int .i64 xbal, .bool xn, .int .i64 xp, .int .i64 xq, .slice xa1 xxs.length xc1, .slice xa2 xys.length xc2, .int .i64 xv, .int .i64 xk] 42) := ⟨_, rfl⟩
        have BX : Hid (Below wr.heap.size wr X) := by show Below _ _ _; rw [hX]; exact (Below.refl _ _).alloc (Nat.le_refl _) _
        have SZ : Hid (X.heap.size = wr.heap.size + 1) := by show _ = _; rw [hX]; simp
        have GX : Hid (Blk X wr.heap.size #[.int .i64 xbal, .bool xn, .int .i64 xp, .int .i64 xq, .slice xa1 xxs.length xc1, .slice xa2 xys.length xc2, .int .i64 xv, .int .i64 xk] 42) := by show Blk _ _ _ _; rw [hX]; exact Blk.new _ _ _
        have HX : Hid (X = _) := hX
        clear hX
        go_upto_region 6 with fail
        rw [← HX.out]
        have g := fun o => BX.out.cell (p := ⟨b2, o, none⟩) hb2
        rw [← g] at f0 f1 f2 f3 f4 f5 f6 f7
        clear g d0 d1 d2 d3 d4 d5 d6 d7
        obtain ⟨Y, hY⟩ : ∃ Y, Y = X.alloc (.cells #[.int .i64 ybal, .bool yn, .int .i64 yp, .int .i64 yq, .slice ya1 yxs.length yc1, .slice ya2 yys.length yc2, .int .i64 yv, .int .i64 yk] 42) := ⟨_, rfl⟩
        have BY : Hid (Below wr.heap.size wr Y) := by show Below _ _ _; rw [hY]; exact BX.out.alloc BX.out.size _
        have GX2 : Hid (Blk Y wr.heap.size #[.int .i64 xbal, .bool xn, .int .i64 xp, .int .i64 xq, .slice xa1 xxs.length xc1, .slice xa2 xys.length xc2, .int .i64 xv, .int .i64 xk] 42) := by show Blk _ _ _ _; rw [hY]; exact GX.out.alloc _
        have GY : Hid (Blk Y X.heap.size #[.int .i64 ybal, .bool yn, .int .i64 yp, .int .i64 yq, .slice ya1 yxs.length yc1, .slice ya2 yys.length yc2, .int .i64 yv, .int .i64 yk] 42) := by show Blk _ _ _ _; rw [hY]; exact Blk.new _ _ _
        have HY : Hid (Y = _) := hY
        clear hY
        go_upto_region 7 with fail
        rw [← HY.out]
        obtain ⟨i0, i1, i2, i3, i4, i5, i6, i7⟩ := GX2.out.cells8
        obtain ⟨o0, o1, o2, o3, o4, o5, o6, o7⟩ := GY.out.cells8
        clear f0 f1 f2 f3 f4 f5 f6 f7
        go_wp2_with fail
        refine (implSameVote xbal ybal xn yn xp xq yp yq xa1 xa2 ya1 ya2 xc1 xc2 yc1 yc2 xxs xys yxs yys xv xk yv yk Y (SX.out.1.below BY.out) (SX.out.2.below BY.out) (SY.out.1.below BY.out) (SY.out.2.below BY.out) lx.1 lx.2.1 ly.1 ly.2.1).mono ?_
        rintro e w1 ⟨rfl, hw⟩
        have B1 : Hid (Below w.heap.size w w1) := KR.out.trans ((BY.out.trans (hw.mono BY.out.size)).mono KR.out.size)
        have N3 := NX2.out _ rfl
        clear hw NX2 i0 i1 i2 i3 i4 i5 i6 i7 o0 o1 o2 o3 o4 o5 o6 o7
        generalize sameV (xbal, ⟨xn, xp, xq, xxs, xys, xv, xk⟩) (ybal, ⟨yn, yp, yq, yxs, yys, yv, yk⟩) = z at N3 ⊢
        cases z with
        | false =>
          have F : Hid (T = false) := N3.1 rfl
          clear N3
          go_wp2_with fail
          go_ret
          exact ⟨ret_bool F.out.symm, B1.out⟩
        | true =>
          have F : Hid (∀ j, j < k + 1 → sameV (vs.getD j v0).body (us.getD j v0).body = true) := N3.2 rfl
          clear N3
          go_wp2_with fail
          go_roundw
          case rel => exact ⟨k + 1, by omega, by go_num, F.out, B1.out⟩
          case measure => simp [intOf]; omega
      · have hki : ¬ (k : Int) < (vs.length : Int) := by omega
        have F : Hid (T = true) := E3.out HE.out (fun i hi => HA.out i (by omega))
        go_wp2_with fail
        go_ret
        exact ⟨ret_bool F.out.symm, KR.out⟩
  · have F : Hid (T = false) := E1.out hlen
    have hne : ((vs.length : Int) != (us.length : Int)) = true := by simp only [bne, beq_eq_false_iff_ne, Bool.not_eq_true', ne_eq]; omega
    clear hlen
    go_enter Try.func57, Try.ntmps57
    go_wp2_with fail
    go_ret
    exact ⟨ret_bool F.out.symm, Below.refl _ _⟩

set_option maxRecDepth 100000 in
set_option maxHeartbeats 1000000 in
theorem implAccSame (m m' : Int) (a b : Option Addr) (c d : Nat) (vs us : List VM) (w : World) (h1 : SlV w a vs) (h2 : SlV w b us) (hn : vs.length ≤ 2 ^ 40) (hm : us.length ≤ 2 ^ 40) (hl1 : VLs vs) (hl2 : VLs us) :
    Calls Try.prog 15 #[.agg #[.int .i64 m, .slice a vs.length c], .agg #[.int .i64 m', .slice b us.length d]] w fun e w' => e = .returned (.bool (m == m' && sameVs (bodies vs) (bodies us))) ∧ Below w.heap.size w w' := by
  obtain ⟨W, hW⟩ : ∃ W, W = (w.alloc (.cells #[.int .i64 m, .slice a vs.length c] 25)).alloc (.cells #[.int .i64 m', .slice b us.length d] 25) := ⟨_, rfl⟩
  have BW : Hid (Below w.heap.size w W) := by
    show Below _ _ _
    rw [hW]; exact ((Below.refl _ _).alloc (Nat.le_refl _) _).alloc (by simp) _
  have HW : Hid (W = _) := hW
  clear hW
  have HC : Hid _ := equalVotes a b c d vs us W (h1.below BW.out) (h2.below BW.out) hn hm hl1 hl2
  clear h1 h2 hl1 hl2
  generalize sameVs (bodies vs) (bodies us) = T at HC ⊢
  cases hmm : (m == m') with
  | false =>
    go_enter Try.func15, Try.ntmps15
    go_wp2_with fail
    go_ret
    exact ⟨ret_bool rfl, by rw [← HW.out]; exact BW.out⟩
  | true =>
    go_enter Try.func15, Try.ntmps15
    go_wp2_with fail
    rw [← HW.out]
    refine Calls.mono HC.out ?_
    rintro e w1 ⟨rfl, b1⟩
    have B1 : Hid (Below w.heap.size w w1) := BW.out.trans (b1.mono BW.out.size)
    clear b1
    go_wp2_with fail
    go_ret
    exact ⟨ret_bool (by first | rfl | simp), B1.out⟩
end Go.Proofs.Ytfifiobcmdmefaa.Own

namespace Go.Proofs.Ytfifiobcmdmefaa.Own
open Go.RowKit
set_option linter.unusedVariables false

/-- Whose a ballot is. -/
def ownerOf (n : Int) : Int := if isBal n then n % 3 else -1

set_option maxRecDepth 100000 in
set_option maxHeartbeats 1000000 in
theorem implOwner (n : Int) (w : World) : Calls Try.prog 22 #[.int .i64 n] w fun e w' => e = .returned (.int .i64 (ownerOf n)) ∧ w' = w := by
  cases hb : isBal n with
  | true =>
    have h := isBal_iff.1 hb
    have e : ownerOf n = n % 3 := by unfold ownerOf; rw [if_pos hb]
    have B : Hid (Calls Try.prog 62 #[.int .i64 n] w fun e w' => e = .returned (.bool true) ∧ w' = w) := hb ▸ implIsBallot n w
    rw [e]
    have ht : n.tmod 3 = n % 3 := Int.tmod_eq_emod_of_nonneg (by omega)
    clear hb e
    go_enter Try.func22, Try.ntmps22
    go_wp2_with fail
    refine Calls.mono B.out ?_
    rintro e w1 ⟨rfl, rfl⟩
    go_wp2_with fail
    go_ret
    exact ⟨ret_int (by first | exact ht | rfl), rfl⟩
  | false =>
    have e : ownerOf n = -1 := by unfold ownerOf; rw [if_neg (by rw [hb]; decide)]
    have B : Hid (Calls Try.prog 62 #[.int .i64 n] w fun e w' => e = .returned (.bool false) ∧ w' = w) := hb ▸ implIsBallot n w
    rw [e]
    clear hb e
    go_enter Try.func22, Try.ntmps22
    go_wp2_with fail
    refine Calls.mono B.out ?_
    rintro e w1 ⟨rfl, rfl⟩
    go_wp2_with fail
    go_ret
    exact ⟨rfl, rfl⟩

set_option maxRecDepth 100000 in
set_option maxHeartbeats 1000000 in
theorem specOwner (n : Int) (w : World) : Calls Try.prog 27 #[.int .i64 n] w fun e w' => e = .returned (.int .i64 (ownerOf n)) ∧ w' = w := by
  cases hb : isBal n with
  | true =>
    have h := isBal_iff.1 hb
    have e : ownerOf n = n % 3 := by unfold ownerOf; rw [if_pos hb]
    have B : Hid (Calls Try.prog 65 #[.int .i64 n] w fun e w' => e = .returned (.bool true) ∧ w' = w) := hb ▸ specBal n w
    rw [e]
    have ht : n.tmod 3 = n % 3 := Int.tmod_eq_emod_of_nonneg (by omega)
    clear hb e
    go_enter Try.func27, Try.ntmps27
    go_wp2_with fail
    refine Calls.mono B.out ?_
    rintro e w1 ⟨rfl, rfl⟩
    go_wp2_with fail
    go_ret
    exact ⟨ret_int (by first | exact ht | rfl), rfl⟩
  | false =>
    have e : ownerOf n = -1 := by unfold ownerOf; rw [if_neg (by rw [hb]; decide)]
    have B : Hid (Calls Try.prog 65 #[.int .i64 n] w fun e w' => e = .returned (.bool false) ∧ w' = w) := hb ▸ specBal n w
    rw [e]
    clear hb e
    go_enter Try.func27, Try.ntmps27
    go_wp2_with fail
    refine Calls.mono B.out ?_
    rintro e w1 ⟨rfl, rfl⟩
    go_wp2_with fail
    go_ret
    exact ⟨rfl, rfl⟩
end Go.Proofs.Ytfifiobcmdmefaa.Own

namespace Go.Proofs.Ytfifiobcmdmefaa.Own
open Go.RowKit
set_option linter.unusedVariables false

/-- The least number above b that is p's. -/
def aboveB (b p : Int) : Int := b + 1 + (p - b - 1) % 3
/-- The next ballot of somebody, or -1. -/
def nextOf (b p : Int) : Int := if 0 ≤ b ∧ b < 3000 ∧ 0 ≤ p ∧ p < 3 ∧ aboveB b p ≤ 3000 then aboveB b p else -1

theorem nextOf_not {b p : Int} (h : ¬ (0 ≤ b ∧ b < 3000 ∧ 0 ≤ p ∧ p < 3)) : nextOf b p = -1 := if_neg (fun h' => h ⟨h'.1, h'.2.1, h'.2.2.1, h'.2.2.2.1⟩)

set_option maxRecDepth 100000 in
set_option maxHeartbeats 1000000 in
theorem implNext (b p : Int) (w : World) : Calls Try.prog 20 #[.int .i64 b, .int .i64 p] w fun e w' => e = .returned (.int .i64 (nextOf b p)) ∧ w' = w := by
  by_cases h : 0 ≤ b ∧ b < 3000 ∧ 0 ≤ p ∧ p < 3
  · obtain ⟨h1, h2, h3, h4⟩ := h
    obtain ⟨T, hT⟩ : ∃ T, T = aboveB b p := ⟨_, rfl⟩
    have HT : Hid (T = b + 1 + (p - b - 1) % 3) := hT
    have hN : nextOf b p = if T ≤ 3000 then T else -1 := by
      unfold nextOf; rw [← hT]
      by_cases hc : T ≤ 3000
      · rw [if_pos ⟨h1, h2, h3, h4, hc⟩, if_pos hc]
      · rw [if_neg (fun h' => hc h'.2.2.2.2), if_neg hc]
    have HR : Hid (b < T ∧ T ≤ b + 3 ∧ T % 3 = p ∧ ∀ x, b < x → x < T → x % 3 ≠ p) := by
      have := HT.out
      refine ⟨by omega, by omega, by omega, fun x _ _ => by omega⟩
    have TL : T ≤ 3002 := by have := HR.out.2.1; omega
    have B : Hid (∀ n w, Calls Try.prog 62 #[.int .i64 n] w fun e w' => e = .returned (.bool (isBal n)) ∧ w' = w) := implIsBallot
    obtain ⟨R, hR⟩ : ∃ R, R = nextOf b p := ⟨_, rfl⟩
    rw [← hR]
    have HN : Hid (R = if T ≤ 3000 then T else -1) := hR.trans hN
    clear hN hT HT hR
    go_enter Try.func20, Try.ntmps20
    go_wp2
    go_loop [5] (fun i => ∃ k : Int, i = .int .i64 k ∧ b < k ∧ k ≤ T) (fun i => (T - intOf i).toNat)
    case atStart => exact ⟨b + 1, rfl, by omega, by have := HR.out.1; omega⟩
    case round =>
      obtain ⟨k, rfl, hk1, hk2⟩ := hrel
      by_cases hk : k % 3 = p
      · have e : k = T := by
          rcases (by omega : k < T ∨ k = T) with hl | hl
          · exact absurd hk (HR.out.2.2.2 k hk1 hl)
          · exact hl
        subst e
        have hm : (k % 3 != p) = false := by rw [hk]; simp
        cases hb : isBal k with
        | true =>
          have hle := (isBal_iff.1 hb).2
          have BK : Hid (Calls Try.prog 62 #[.int .i64 k] w fun e w' => e = .returned (.bool true) ∧ w' = w) := hb ▸ B.out k w
          clear hb hk
          go_wp2_with fail
          refine Calls.mono BK.out ?_
          rintro e w1 ⟨rfl, rfl⟩
          go_wp2_with fail
          go_ret
          exact ⟨ret_int (by rw [HN.out, if_pos hle]), rfl⟩
        | false =>
          have hle : ¬ k ≤ 3000 := by rcases isBal_not.1 hb with h | h <;> omega
          have BK : Hid (Calls Try.prog 62 #[.int .i64 k] w fun e w' => e = .returned (.bool false) ∧ w' = w) := hb ▸ B.out k w
          clear hb hk
          go_wp2_with fail
          refine Calls.mono BK.out ?_
          rintro e w1 ⟨rfl, rfl⟩
          go_wp2_with fail
          go_ret
          exact ⟨ret_int (by rw [HN.out, if_neg (by omega)]), rfl⟩
      · have hm : (k % 3 != p) = true := by simpa using hk
        have hl : k < T := by
          rcases (by omega : k < T ∨ k = T) with hl | hl
          · exact hl
          · exact absurd (hl ▸ HR.out.2.2.1) hk
        clear hk
        go_wp2
        go_round
        case rel => exact ⟨k + 1, rfl, by omega, by omega⟩
        case measure => simp [intOf]; omega
  · rw [nextOf_not h]
    by_cases h1 : b < 0
    · go_enter Try.func20, Try.ntmps20
      go_wp2
      go_ret
      exact ⟨rfl, rfl⟩
    by_cases h2 : 3000 ≤ b
    · go_enter Try.func20, Try.ntmps20
      go_wp2
      go_ret
      exact ⟨rfl, rfl⟩
    by_cases h3 : p < 0
    · go_enter Try.func20, Try.ntmps20
      go_wp2
      go_ret
      exact ⟨rfl, rfl⟩
    have h4 : 3 ≤ p := by omega
    go_enter Try.func20, Try.ntmps20
    go_wp2
    go_ret
    exact ⟨rfl, rfl⟩

set_option maxRecDepth 100000 in
set_option maxHeartbeats 1000000 in
theorem specNext (b p : Int) (w : World) : Calls Try.prog 21 #[.int .i64 b, .int .i64 p] w fun e w' => e = .returned (.int .i64 (nextOf b p)) ∧ w' = w := by
  by_cases h : 0 ≤ b ∧ b < 3001 ∧ 0 ≤ p ∧ p < 3
  · obtain ⟨h1, h2, h3, h4⟩ := h
    obtain ⟨T, hT⟩ : ∃ T, T = aboveB b p := ⟨_, rfl⟩
    have HT : Hid (T = b + 1 + (p - b - 1) % 3) := hT
    have hN : nextOf b p = if T ≤ 3000 then T else -1 := by
      have := HT.out
      unfold nextOf; rw [← hT]
      by_cases hc : T ≤ 3000
      · rw [if_pos ⟨h1, by omega, h3, h4, hc⟩, if_pos hc]
      · rw [if_neg (fun h' => hc h'.2.2.2.2), if_neg hc]
    have HR : Hid (b < T ∧ T ≤ b + 3 ∧ T % 3 = p ∧ ∀ x, b < x → x < T → x % 3 ≠ p) := by
      have := HT.out
      refine ⟨by omega, by omega, by omega, fun x _ _ => by omega⟩
    obtain ⟨R, hR⟩ : ∃ R, R = nextOf b p := ⟨_, rfl⟩
    rw [← hR]
    have HN : Hid (R = if T ≤ 3000 then T else -1) := hR.trans hN
    clear hN hT HT hR
    go_enter Try.func21, Try.ntmps21
    go_wp2
    go_loop [5] (fun i => ∃ k : Int, i = .int .i64 k ∧ b < k ∧ k ≤ T ∧ k ≤ 3001) (fun i => (T - intOf i).toNat)
    case atStart => exact ⟨b + 1, rfl, by omega, by have := HR.out.1; omega, by omega⟩
    case round =>
      obtain ⟨k, rfl, hk1, hk2, hk3⟩ := hrel
      have hb3 : k ≤ b + 3 := by have := HR.out.2.1; omega
      by_cases hle : k ≤ 3000
      · by_cases hk : k % 3 = p
        · have e : k = T := by
            rcases (by omega : k < T ∨ k = T) with hl | hl
            · exact absurd hk (HR.out.2.2.2 k hk1 hl)
            · exact hl
          subst e
          have hm : (k % 3 == p) = true := by rw [hk]; simp
          clear hk
          go_wp2
          go_ret
          exact ⟨ret_int (by rw [HN.out, if_pos hle]), rfl⟩
        · have hm : (k % 3 == p) = false := by simpa using hk
          have hl : k < T := by
            rcases (by omega : k < T ∨ k = T) with hl | hl
            · exact hl
            · exact absurd (hl ▸ HR.out.2.2.1) hk
          clear hk
          go_wp2
          go_round
          case rel => exact ⟨k + 1, rfl, by omega, by omega, by omega⟩
          case measure => simp [intOf]; omega
      · have hT3 : ¬ T ≤ 3000 := by omega
        go_wp2
        go_ret
        exact ⟨ret_int (by rw [HN.out, if_neg (by omega)]), rfl⟩
  · rw [nextOf_not (fun h' => h ⟨h'.1, by omega, h'.2.2⟩)]
    by_cases h1 : b < 0
    · go_enter Try.func21, Try.ntmps21
      go_wp2
      go_ret
      exact ⟨rfl, rfl⟩
    by_cases h2 : 3000 < b
    · go_enter Try.func21, Try.ntmps21
      go_wp2
      go_ret
      exact ⟨rfl, rfl⟩
    by_cases h3 : p < 0
    · go_enter Try.func21, Try.ntmps21
      go_wp2
      go_ret
      exact ⟨rfl, rfl⟩
    have h4 : 3 ≤ p := by omega
    go_enter Try.func21, Try.ntmps21
    go_wp2
    go_ret
    exact ⟨rfl, rfl⟩
end Go.Proofs.Ytfifiobcmdmefaa.Own

namespace Go.Proofs.Ytfifiobcmdmefaa.Own
open Go.RowKit
set_option linter.unusedVariables false

theorem nums_newO (w : World) (zs : List Int) (cs : Array Value) (t : TypeId) (h : cs = (zs.map (Value.int .i64)).toArray) : Nums (w.alloc (.cells cs t)) w.heap.size zs := by
  subst h
  refine ⟨by rw [size_new]; omega, fun i hi => ?_⟩
  rw [cell_heap (heap_new _ _)]
  simp [List.getD, hi]

set_option maxRecDepth 100000 in
set_option maxHeartbeats 1000000 in
theorem drawAccOwner (a : Option Addr) (n c : Nat) (w : World) (h : Bytes w w.heap.size a n) (hc : n ≤ c) (hm : c ≤ maxLen) :
    Calls Try.prog 26 #[.slice a n c] w fun e w' => (∃ b : Int, e = .returned (.int .i64 b) ∧ -1 ≤ b ∧ b ≤ 3001) ∧ Below w.heap.size w w' := by
  have HB : Hid (Bytes w w.heap.size a n) := h
  have HM : Hid (c ≤ maxLen) := hm
  clear h hm
  go_enter Try.func26, Try.ntmps26
  go_wp2_with fail
  refine (l15Open a n c w HB.out hc HM.out).mono ?_
  rintro e w1 ⟨rfl, hR, hb⟩
  have D1 : Hid (Rd w1 w.heap.size (w.heap.size + 1) 0) := hR
  have B1 : Hid (Below w.heap.size w w1) := hb
  clear hR hb
  go_wp2_with fail
  refine (num w.heap.size (w.heap.size + 1) 0 w1.heap.size 9 9 [0, 1, 2, 3, 4, 7, 3000, 3001, -1] _ (D1.out.alloc _) (by omega) (nums_newO _ _ _ _ rfl) rfl (by omega) (by omega) (by have := D1.out.2.1; omega)).mono ?_
  rintro e w2 ⟨⟨b, rfl, hz⟩, _, hO⟩
  have F : Hid ((-1 ≤ b ∧ b ≤ 3001) ∧ Below w.heap.size w w2) := ⟨by simp at hz; omega, (B1.out.alloc B1.out.size _).trans ((hO.below (Nat.le_refl _)).mono (Nat.le_refl _))⟩
  clear hz hO
  go_wp2
  go_ret
  exact ⟨⟨b, rfl, F.out.1⟩, F.out.2⟩

end Go.Proofs.Ytfifiobcmdmefaa.Own

namespace Go.Proofs.Ytfifiobcmdmefaa.Own
open Go.RowKit
set_option linter.unusedVariables false

set_option maxRecDepth 100000 in
set_option maxHeartbeats 1000000 in
theorem drawAccNext (a : Option Addr) (n c : Nat) (w : World) (h : Bytes w w.heap.size a n) (hc : n ≤ c) (hm : c ≤ maxLen) :
    Calls Try.prog 19 #[.slice a n c] w fun e w' => (∃ b p : Int, e = .returned (.tuple #[.int .i64 b, .int .i64 p]) ∧ -1 ≤ b ∧ b ≤ 3000 ∧ -1 ≤ p ∧ p ≤ 3) ∧ Below w.heap.size w w' := by
  have HB : Hid (Bytes w w.heap.size a n) := h
  have HM : Hid (c ≤ maxLen) := hm
  clear h hm
  go_enter Try.func19, Try.ntmps19
  go_wp2_with fail
  refine (l15Open a n c w HB.out hc HM.out).mono ?_
  rintro e w1 ⟨rfl, hR, hb⟩
  have D1 : Hid (Rd w1 w.heap.size (w.heap.size + 1) 0) := hR
  have B1 : Hid (Below w.heap.size w w1) := hb
  clear hR hb
  go_wp2_with fail
  refine (num w.heap.size (w.heap.size + 1) 0 w1.heap.size 9 9 [0, 1, 2, 5, 9, 3000, 2999, 2998, -1] _ (D1.out.alloc _) (by omega) (nums_newO _ _ _ _ rfl) rfl (by omega) (by omega) (by have := D1.out.2.1; omega)).mono ?_
  rintro e w2 ⟨⟨b, rfl, hz⟩, hR2, hO⟩
  have D2 : Hid (Rd w2 w.heap.size (w.heap.size + 1) 1) := hR2
  have F : Hid ((-1 ≤ b ∧ b ≤ 3000) ∧ Below w.heap.size w w2) := ⟨by simp at hz; omega, (B1.out.alloc B1.out.size _).trans ((hO.below (Nat.le_refl _)).mono (Nat.le_refl _))⟩
  clear hz hO hR2
  go_wp2_with fail
  refine (pick w.heap.size (w.heap.size + 1) 1 5 w2 D2.out (by omega) (by omega) (by omega)).mono ?_
  rintro e w3 ⟨⟨r, rfl, r0, r5⟩, _, hO⟩
  have G : Hid (Below w.heap.size w w3) := F.out.2.trans ((hO.below (Nat.le_refl _)).mono (Nat.le_refl _))
  clear hO
  go_wp2
  go_ret2
  exact ⟨⟨b, r - 1, rfl, F.out.1.1, F.out.1.2, by omega, by omega⟩, G.out⟩

theorem next_facts (b p : Int) (h1 : -1 ≤ b) (h2 : b ≤ 3000) : nextOf b p = -1 ∨ (0 ≤ b ∧ b < nextOf b p ∧ nextOf b p ≤ 3000 ∧ ownerOf (nextOf b p) = p ∧ ∀ x, b < x → x < nextOf b p → ownerOf x ≠ p) := by
  unfold nextOf
  by_cases h : 0 ≤ b ∧ b < 3000 ∧ 0 ≤ p ∧ p < 3 ∧ aboveB b p ≤ 3000
  · right
    rw [if_pos h]
    obtain ⟨a1, a2, a3, a4, a5⟩ := h
    have e : ∀ x, 1 ≤ x → x ≤ 3000 → ownerOf x = x % 3 := fun x a c => by unfold ownerOf; rw [if_pos (isBal_iff.2 ⟨a, c⟩)]
    have lo : b < aboveB b p := by unfold aboveB; omega
    refine ⟨a1, lo, a5, ?_, fun x hx hx2 => ?_⟩
    · rw [e _ (by omega) a5]; unfold aboveB; omega
    · rw [e x (by omega) (by omega)]; unfold aboveB at hx2; omega
  · left; rw [if_neg h]
end Go.Proofs.Ytfifiobcmdmefaa.Own

namespace Go.Proofs.Ytfifiobcmdmefaa.Own
open Go.ChangeShapes Go.WideShapes Go.ChangeAt Go.RowKit

theorem addr_add (b off j : Nat) : (⟨b, off, none⟩ : Addr).add j = ⟨b, off + j, none⟩ := by unfold Addr.add; split <;> simp_all

theorem openBytes {H : Type} {enc : TypeId × Value → H} {W : World} {fuel : Nat} {a : Option Addr} {len cap : Nat} {x : DataW H × List MemPlace}
    (hf : DataW.trod enc Try.prog W 0 (fun _ => true) true fuel 22 [.slice a len cap] = some x) : Bytes W W.heap.size a len ∧ len ≤ cap ∧ cap ≤ maxLen := by
  rcases open_ints Try.underlying22 Try.underlying5 (by kernel_rfl) hf with ⟨hcs, _⟩ | ⟨ad, l, c, zs, hcs, _, hl, hm, hz, _, hcell, hwz⟩
  · simp at hcs
    obtain ⟨rfl, rfl, rfl⟩ := hcs
    exact ⟨.inl rfl, Nat.le_refl _, by unfold maxLen; omega⟩
  · simp at hcs
    obtain ⟨rfl, rfl, rfl⟩ := hcs
    refine ⟨?_, hl, hm⟩
    by_cases h0 : len = 0
    · exact .inl h0
    right
    have hz' : zs.length = cap := by simpa using hz
    obtain ⟨b, off, spot⟩ := ad
    have c0 := hcell 0 (by omega)
    have hspot : spot = none := by simpa [Addr.add] using World.cell?_spot c0
    subst hspot
    refine ⟨b, off, rfl, ?_, ?_⟩
    · rw [addr_add] at c0
      simp only [World.cell?] at c0
      cases hq : W.heap[b]? with
      | none => simp [hq] at c0
      | some o => exact (Array.getElem?_eq_some_iff.1 hq).1
    · intro i hi
      have hc := hcell i (by omega)
      rw [addr_add] at hc
      have hw := hwz (zs.getD i 0) (by simp [List.getD, show i < zs.length by omega])
      have hb : 0 ≤ zs.getD i 0 ∧ zs.getD i 0 ≤ 255 := by
        simpa [Lit.wf, IntKind.min, IntKind.max, IntKind.signed, IntKind.bits] using hw
      exact ⟨(zs.getD i 0).toNat, by omega, by rw [hc]; congr 2; omega⟩
end Go.Proofs.Ytfifiobcmdmefaa.Own
