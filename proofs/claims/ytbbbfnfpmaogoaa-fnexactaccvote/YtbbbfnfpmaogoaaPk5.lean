/-
  Own texts, bundled: PutVote, ListCopy, ListGrow, Pair2, EqualR, EntMath, EqualP, ExecSameI, EntLikeI, ExecOkI.
-/
import Derived.Test.YtbbbfnfpmaogoaaPk4
import Derived.Deep.AppendLies
import Derived.Test.YtbbbfnfpmaogoaaPk1
import Derived.Test.YtbbbfnfpmaogoaaPk2
import Derived.ChangeKeysEq
import Derived.BigQuiet
import Derived.Deep.QuietTactic
namespace Go.Proofs.Ytbbbfnfpmaogoaa.Own
open Go.RowKit
set_option linter.unusedVariables false
set_option linter.unusedSimpArgs false

theorem set8_other (w : World) (g o : Nat) (y : VM) (o' : Nat) (ho : o' < o ∨ o + 7 < o') : (set8 w g o y).cell? ⟨g, o', none⟩ = w.cell? ⟨g, o', none⟩ := by
  unfold set8
  rw [setCell_cell_other _ _ _ _ _ (by omega), setCell_cell_other _ _ _ _ _ (by omega), setCell_cell_other _ _ _ _ _ (by omega), setCell_cell_other _ _ _ _ _ (by omega), setCell_cell_other _ _ _ _ _ (by omega), setCell_cell_other _ _ _ _ _ (by omega), setCell_cell_other _ _ _ _ _ (by omega), setCell_cell_other _ _ _ _ _ (by omega)]
theorem set8_c8 {w : World} {g o : Nat} {x : VM} (h : C8 w g o x) (y : VM) : C8 (set8 w g o y) g o y := by
  obtain ⟨h0, h1, h2, h3, h4, h5, h6, h7⟩ := h
  unfold set8
  refine ⟨?_, ?_, ?_, ?_, ?_, ?_, ?_, ?_⟩
  all_goals
    repeat (rw [setCell_cell_other _ _ _ _ _ (by omega)])
    apply setCell_cell_same
    repeat (rw [setCell_cell_other _ _ _ _ _ (by omega)])
    assumption
theorem OwnB.blkLt {w : World} {B : Nat} {a : Option Addr} {xs : List P2} (h : OwnB w B a xs) : ∀ b, blkOf a xs.length = some b → B ≤ b ∧ b < w.heap.size := by
  intro b hb
  rcases h with rfl | ⟨g, rfl, hB, h, _⟩
  · simp [blkOf] at hb
  · by_cases h0 : xs.length = 0
    · simp [blkOf, h0] at hb
    · have : g = b := by simpa [blkOf, h0] using hb
      subst this
      exact ⟨hB, h.1⟩
theorem getD_setV (vs : List VM) (i j : Nat) (y : VM) (hi : i < vs.length) : (vs.set i y).getD j v0 = if i = j then y else vs.getD j v0 := by
  simp only [List.getD_eq_getElem?_getD, List.getElem?_set]
  by_cases e : i = j
  · simp [e, show j < vs.length by omega]
  · simp [e]

theorem OwnVs.put {w0 w : World} {B g : Nat} {vs : List VM} (h0 : OwnVs w0 B g vs) (sep : Sep g vs) (hb : Below w0.heap.size w0 w) {y : VM} (hy : OneOwn w w0.heap.size y) (hB : B ≤ w0.heap.size) (i : Nat) (hi : i < vs.length) :
    OwnVs (set8 w g (i * 8) y) B g (vs.set i y) ∧ Sep g (vs.set i y) := by
  have T := set8_turned w g (i * 8) y
  have S := set8_size w g (i * 8) y
  have hs := hb.size
  have hg := h0.lt
  have keep : ∀ b, b ≠ g → (set8 w g (i * 8) y).heap[b]? = w.heap[b]? := fun b hne => by
    unfold set8
    rw [Below.heap_setCell _ _ _ _ hne, Below.heap_setCell _ _ _ _ hne, Below.heap_setCell _ _ _ _ hne, Below.heap_setCell _ _ _ _ hne, Below.heap_setCell _ _ _ _ hne, Below.heap_setCell _ _ _ _ hne, Below.heap_setCell _ _ _ _ hne, Below.heap_setCell _ _ _ _ hne]
  have lt0 : ∀ j, j < vs.length → ∀ b, (blk1 (vs.getD j v0) = some b ∨ blk2 (vs.getD j v0) = some b) → b < w0.heap.size := fun j hj b e => by
    rcases e with e | e
    · exact ((h0.own j hj).1.blkLt b e).2
    · exact ((h0.own j hj).2.blkLt b e).2
  have yb : ∀ b, (blk1 y = some b ∨ blk2 y = some b) → w0.heap.size ≤ b ∧ b < w.heap.size := fun b e => by
    rcases e with e | e
    · exact hy.b1 b e
    · exact hy.b2 b e
  refine ⟨⟨by rw [S]; omega, h0.lo, fun o => ?_, fun j hj => ?_, fun j hj => ?_⟩, ⟨fun j hj => ?_, fun j hj => ?_, fun j k hj hk hne b e => ?_⟩⟩
  · have : w.frozen? ⟨g, o, none⟩ = false := by rw [hb.frozen (p := ⟨g, o, none⟩) hg]; exact h0.fr o
    simpa [set8] using this
  · rw [List.length_set] at hj
    rw [getD_setV _ _ _ _ hi]
    have cj : C8 w g (j * 8) (vs.getD j v0) := (h0.cell j hj).congr fun l hl => hb.cell (p := ⟨g, j * 8 + l, none⟩) hg
    by_cases e : i = j
    · subst e; rw [if_pos rfl]; exact set8_c8 cj y
    · rw [if_neg e]
      exact cj.congr fun l hl => set8_other _ _ _ _ _ (by omega)
  · rw [List.length_set] at hj
    rw [getD_setV _ _ _ _ hi]
    by_cases e : i = j
    · subst e; rw [if_pos rfl]
      refine ⟨(hy.l1.weaken hB).blk S fun b hb' => keep b ?_, (hy.l2.weaken hB).blk S fun b hb' => keep b ?_⟩
      · have := hy.b1 b hb'; omega
      · have := hy.b2 b hb'; omega
    · rw [if_neg e]
      have s := sep.one j hj
      refine ⟨((h0.own j hj).1.below hb).blk S fun b hb' => keep b fun e => s.1 (by rw [← e]; exact hb'), ((h0.own j hj).2.below hb).blk S fun b hb' => keep b fun e => s.2 (by rw [← e]; exact hb')⟩
  · rw [List.length_set] at hj
    rw [getD_setV _ _ _ _ hi]
    by_cases e : i = j
    · rw [if_pos e]
      exact ⟨fun e2 => by have := yb g (.inl e2); omega, fun e2 => by have := yb g (.inr e2); omega⟩
    · rw [if_neg e]; exact sep.one j hj
  · rw [List.length_set] at hj
    rw [getD_setV _ _ _ _ hi]
    by_cases e : i = j
    · rw [if_pos e]; exact hy.ap
    · rw [if_neg e]; exact sep.two j hj
  · rw [List.length_set] at hj hk
    rw [getD_setV _ _ _ _ hi] at e ⊢
    by_cases ej : i = j
    · rw [if_pos ej] at e
      rw [if_neg (by omega)]
      have := yb b e
      exact ⟨fun e2 => by have := lt0 k hk b (.inl e2); omega, fun e2 => by have := lt0 k hk b (.inr e2); omega⟩
    · rw [if_neg ej] at e
      have := lt0 j hj b e
      by_cases ek : i = k
      · rw [if_pos ek]
        exact ⟨fun e2 => by have := yb b (.inl e2); omega, fun e2 => by have := yb b (.inr e2); omega⟩
      · rw [if_neg ek]; exact sep.all j k hj hk hne b e
end Go.Proofs.Ytbbbfnfpmaogoaa.Own

namespace Go.Proofs.Ytbbbfnfpmaogoaa.Own
open Go.RowKit
set_option linter.unusedVariables false
set_option linter.unusedSimpArgs false

theorem infoVoteC : (Try.prog.info? 86).map (fun i => (i.zero, i.size, i.bytes)) = some (some (.agg #[.int .i64 0, .bool false, .int .i64 0, .int .i64 0, .slice none 0 0, .slice none 0 0, .int .i64 0, .int .i64 0]), 8, 96) := by kernel_rfl
theorem bodies_snoc (us : List VM) (y : VM) : bodies (us ++ [y]) = bodies us ++ [y.body] := by simp [bodies]
theorem bodies_take (vs : List VM) (j : Nat) (hj : j < vs.length) : (bodies vs).take (j + 1) = (bodies vs).take j ++ [(vs.getD j v0).body] := by
  rw [List.take_succ_eq_append_getElem (by rw [bodies_len]; exact hj), ← bodies_getD]
  simp [List.getD, bodies_len, hj]

theorem eight_new (w : World) (y : VM) : ∀ j u, y.cells.toList[j]? = some u → (w.alloc (.cells y.cells 86)).cell? ((⟨w.heap.size, 0, none⟩ : Addr).add j) = some u := by
  intro j u hu
  have e : (⟨w.heap.size, 0, none⟩ : Addr).add j = ⟨w.heap.size, j, none⟩ := by unfold Addr.add; split <;> simp_all
  rw [e, (Blk.new w y.cells _).cell]
  simpa using hu
theorem cells_one (y : VM) : ∀ u ∈ y.cells.toList, u.oneCell' = true := by
  intro u hu
  simp [VM.cells] at hu
  rcases hu with rfl | rfl | rfl | rfl | rfl | rfl | rfl | rfl <;> rfl

set_option maxRecDepth 100000 in
set_option maxHeartbeats 2000000 in
theorem listCopied (a : Option Addr) (c : Nat) (vs : List VM) (w : World) (h : SlV w a vs) (hl : VLs vs) (hn : vs.length ≤ 2 ^ 30) :
    Calls Try.prog 89 #[.slice a vs.length c] w fun e w' => ∃ v us, e = .returned v ∧ OwnL w' w.heap.size v us ∧ bodies us = bodies vs ∧ Below w.heap.size w w' := by
  have H : Hid (SlV w a vs) := h
  have VLS : Hid (VLs vs) := hl
  clear h hl
  obtain ⟨i0, hi, hz0, hz1, hz2⟩ := info_parts infoVoteC
  have I0 : Hid (Try.prog.info? 86 = some i0 ∧ i0.zero = some (.agg #[.int .i64 0, .bool false, .int .i64 0, .int .i64 0, .slice none 0 0, .slice none 0 0, .int .i64 0, .int .i64 0]) ∧ i0.size = 8 ∧ i0.bytes = 96) := ⟨hi, hz0, hz1, hz2⟩
  clear hi hz0 hz1 hz2
  go_enter Try.func89, Try.ntmps89
  go_wp2_with fail
  go_loopw [3, 8] (fun o i wr => ∃ (j : Nat) (us : List VM), j ≤ vs.length ∧ i = .int .i64 j ∧ Hid (OwnL wr w.heap.size o us) ∧ Hid (bodies us = (bodies vs).take j) ∧ Hid (Below w.heap.size w wr)) (fun _ i _ => vs.length - (intOf i).toNat)
  case atStart => exact ⟨0, [], Nat.zero_le _, rfl, OwnL.nil _ _, by show _ = _; simp [bodies], Below.refl _ _⟩
  case round =>
    obtain ⟨j, us, hj, rfl, OL, BU, BW⟩ := hrel
    by_cases hlt : j < vs.length
    · have hji : (j : Int) < (vs.length : Int) := by omega
      obtain ⟨x, hx⟩ : ∃ x, x = vs.getD j v0 := ⟨_, rfl⟩
      rcases H.out with h0 | ⟨b, off, rfl, hat⟩
      · rw [h0] at hlt; simp at hlt
      obtain ⟨c8, s1, s2⟩ := (hat.below BW.out).2 j hlt
      have VX := VLS.out j hlt
      rw [← hx] at c8 s1 s2 VX
      obtain ⟨q0, q1, q2, q3, q4, q5, q6, q7⟩ := c8
      have S1 : Hid (Sl wr x.a1 x.b.xs) := s1
      have S2 : Hid (Sl wr x.a2 x.b.ys) := s2
      have HXB : Hid (x = vs.getD j v0) := hx
      clear hat s1 s2 hx
      go_upto_region 5 with fail
      obtain ⟨X, hX⟩ : ∃ X, X = wr.alloc (.cells #[.int .i64 x.bal, .bool x.b.n, .int .i64 x.b.p, .int .i64 x.b.q, .slice x.a1 x.b.xs.length x.c1, .slice x.a2 x.b.ys.length x.c2, .int .i64 x.b.v, .int .i64 x.b.k] 86) := ⟨_, rfl⟩
      rw [← hX]
      have GX : Hid (Blk X wr.heap.size x.cells 86) := by show Blk _ _ _ _; rw [hX]; exact Blk.new _ _ _
      have BX : Hid (Below wr.heap.size wr X) := by show Below _ _ _; rw [hX]; exact (Below.refl _ _).alloc (Nat.le_refl _) _
      clear hX q0 q1 q2 q3 q4 q5 q6 q7
      obtain ⟨q0, q1, q2, q3, q4, q5, q6, q7⟩ := Blk.cells8 GX.out
      go_wp2_with fail
      refine (voteCopied x X (S1.out.below BX.out) (S2.out.below BX.out) VX.1 VX.2.1).mono ?_
      rintro e w1 ⟨y, rfl, hyb, hy, hb1⟩
      have Y1 : Hid (OneOwn w1 X.heap.size y) := hy
      have YB : Hid (y.body = x.body) := hyb
      have B1 : Hid (Below X.heap.size X w1) := hb1
      have hul : us.length = j := by
        have := congrArg List.length BU.out
        rw [bodies_len, List.length_take, bodies_len] at this
        omega
      have OX := OL.out.keep BX.out
      have BWX : Hid (Below w.heap.size w X) := BW.out.trans (BX.out.mono BW.out.size)
      have BA : Hid (Below X.heap.size X (w1.alloc (.cells y.cells 86))) := B1.out.alloc B1.out.size _
      have YA : Hid (OneOwn (w1.alloc (.cells y.cells 86)) X.heap.size y) := Y1.out.blk (by rw [size_new]; omega) fun b hb => heap_old _ _ _ (by
        rcases hb with hb | hb
        · exact (Y1.out.b1 b hb).2
        · exact (Y1.out.b2 b hb).2)
      have OXH : Hid (OwnL X w.heap.size u3 us) := OX
      have s1 := BWX.out.size
      have s2 := B1.out.size
      clear hy hyb hb1 OX q0 q1 q2 q3 q4 q5 q6 q7
      simp only [VM.cells] at BA YA ⊢
      go_wp2_with (at_builtin; go_loud (refine wpList_append_lies _ rfl (.tmp 12) (.tmp 15) 114 rfl w.heap.size 86 i0 _ 8 96 Try.underlying114 I0.out.1 I0.out.2.1 I0.out.2.2.1 I0.out.2.2.2 rfl (by decide) u3 us.length (flat8 us) rfl (OXH.out.keep BA.out).row ⟨w1.heap.size, 0, none⟩ 1 1 y.cells.toList rfl rfl (eight_new w1 y) (cells_one y) (by decide) (by unfold maxLen; omega) (by omega) (by rw [size_new]; omega) (w1.heap.size + 1) (size_new _ _) ?_))
      intro g4 cap4 w4 hown4 hgr hloc hg4
      have OW4 : Hid (OwnL w4 w.heap.size (.slice (some ⟨g4, 0, none⟩) (j + 1) cap4) (us ++ [y])) := OXH.out.snoc BA.out YA.out s1 (by rw [hul]; exact hown4) hgr (fun g hg => by
        simp only [Value.ownBlock] at hg
        injection hg with hg
        rcases hloc with hloc | hloc
        · left; rw [hloc, hg]
        · right; rw [size_new]; omega)
      have B4 : Hid (Below w.heap.size w w4) := (BWX.out.trans (BA.out.mono s1)).grown hgr (by rw [size_new]; omega) (fun k hk => (by
        have := OXH.out.row
        obtain ⟨_, hr⟩ := this
        rcases hr with ⟨e, _⟩ | ⟨g, cap, cur, e, hg, _⟩
        · rw [e] at hk; cases hk
        · rw [e] at hk
          simp only [Value.ownBlock] at hk
          injection hk with hk
          omega))
      clear hown4 hgr hloc hg4
      go_wp2_with fail
      refine ⟨⟨j + 1, us ++ [y], by omega, by go_num, OW4.out, ?_, B4.out⟩, ?_⟩
      · show _ = _
        rw [bodies_snoc, bodies_take _ _ hlt, BU.out, YB.out, HXB.out]
      · simp only [intOf]; omega
    · have hji : ¬ (j : Int) < (vs.length : Int) := by omega
      obtain rfl : j = vs.length := by omega
      go_wp2_with fail
      go_ret
      exact ⟨_, rfl, us, OL.out, by rw [BU.out, List.take_of_length_le (by rw [bodies_len]; exact Nat.le_refl _)], BW.out⟩
end Go.Proofs.Ytbbbfnfpmaogoaa.Own

namespace Go.Proofs.Ytbbbfnfpmaogoaa.Own
open Go.RowKit
set_option linter.unusedVariables false
set_option linter.unusedSimpArgs false

theorem OwnL.form {w : World} {B : Nat} {v : Value} {vs : List VM} (h : OwnL w B v vs) : ∃ a cap, v = .slice a vs.length cap := by
  obtain ⟨_, hr⟩ := h.row
  rcases hr with ⟨hv, h0⟩ | ⟨g, cap, cur, hv, _⟩
  · exact ⟨none, 0, by rw [hv, h0]⟩
  · exact ⟨some ⟨g, 0, none⟩, cap, hv⟩
theorem OwnL.from {w : World} {B : Nat} {v : Value} {vs : List VM} (h : OwnL w B v vs) : ∀ k, v.ownBlock = some k → B ≤ k := by
  intro k hk
  obtain ⟨_, hr⟩ := h.row
  rcases hr with ⟨e, _⟩ | ⟨g, cap, cur, e, hg, _⟩
  · rw [e] at hk; cases hk
  · rw [e] at hk
    simp only [Value.ownBlock] at hk
    injection hk with hk
    omega
theorem one_v0 (w : World) (B : Nat) : OneOwn w B v0 :=
  ⟨.inl rfl, .inl rfl, Nat.le_refl _, Nat.le_refl _, fun b h => by simp [blk1, blkOf, v0, e0] at h, fun b h => by simp [blk2, blkOf, v0, e0] at h, fun b h => by simp [blk1, blkOf, v0, e0] at h⟩
/-- Votes, and behind them so many that are none. -/
def padV (us : List VM) (k : Nat) : List VM := us ++ List.replicate k v0
theorem padV_len (us : List VM) (k : Nat) : (padV us k).length = us.length + k := by simp [padV]
theorem padV_succ (us : List VM) (k : Nat) : padV us (k + 1) = padV us k ++ [v0] := by simp [padV, List.replicate_succ', List.append_assoc]

def lenN : Value → Nat
  | .slice _ n _ => n
  | _ => 0

set_option maxRecDepth 100000 in
set_option maxHeartbeats 2000000 in
theorem listGrown (v : Value) (us : List VM) (n : Nat) (w : World) (B : Nat) (h : OwnL w B v us) (hB : B ≤ w.heap.size) (hu : us.length ≤ 2 ^ 30) (hn : n ≤ 2 ^ 30) :
    Calls Try.prog 81 #[v, .int .i64 n] w fun e w' => ∃ v', e = .returned v' ∧ OwnL w' B v' (padV us (n - us.length)) ∧ Below B w w' := by
  obtain ⟨a0, cap0, rfl⟩ := h.form
  have H : Hid (OwnL w B (.slice a0 us.length cap0) us) := h
  clear h
  obtain ⟨i0, hi, hz0, hz1, hz2⟩ := info_parts infoVoteC
  have I0 : Hid (Try.prog.info? 86 = some i0 ∧ i0.zero = some (.agg #[.int .i64 0, .bool false, .int .i64 0, .int .i64 0, .slice none 0 0, .slice none 0 0, .int .i64 0, .int .i64 0]) ∧ i0.size = 8 ∧ i0.bytes = 96) := ⟨hi, hz0, hz1, hz2⟩
  clear hi hz0 hz1 hz2
  go_enter Try.func81, Try.ntmps81
  go_wp2_with fail
  go_loopw [0] (fun o wr => ∃ (k : Nat) (a : Option Addr) (cap : Nat), k ≤ n - us.length ∧ o = .slice a (us.length + k) cap ∧ Hid (OwnL wr B (.slice a (us.length + k) cap) (padV us k)) ∧ Hid (Below B w wr)) (fun o _ => n - lenN o)
  case atStart => exact ⟨0, a0, cap0, Nat.zero_le _, rfl, by show OwnL _ _ _ _; simpa [padV] using H.out, Below.refl _ _⟩
  case round =>
    obtain ⟨k, a, cap, hk, rfl, OL, BW⟩ := hrel
    by_cases hlt : us.length + k < n
    · have hji : ((us.length + k : Nat) : Int) < (n : Int) := by omega
      have s1 := BW.out.size
      have BA : Hid (Below wr.heap.size wr (wr.alloc (.cells v0.cells 86))) := (Below.refl _ _).alloc (Nat.le_refl _) _
      have PL := padV_len us k
      have OK : Hid (OwnL (wr.alloc (.cells v0.cells 86)) B (.slice a (us.length + k) cap) (padV us k)) := OL.out.keep BA.out
      have RW : Hid ((wr.alloc (.cells v0.cells 86)).ownsRow B 86 8 (.slice a (us.length + k) cap) (us.length + k) (flat8 (padV us k))) := by
        have := OK.out.row
        rw [PL] at this
        exact this
      have PLH : Hid ((padV us k).length = us.length + k) := PL
      clear PL
      go_wp2_with (at_builtin; go_loud (refine wpList_append_lies _ rfl (.tmp 9) (.tmp 11) 114 rfl B 86 i0 _ 8 96 Try.underlying114 I0.out.1 I0.out.2.1 I0.out.2.2.1 I0.out.2.2.2 rfl (by decide) (.slice a (us.length + k) cap) (us.length + k) (flat8 (padV us k)) rfl RW.out ⟨wr.heap.size, 0, none⟩ 1 1 v0.cells.toList rfl rfl (eight_new wr v0) (cells_one v0) (by decide) (by unfold maxLen; omega) (by omega) (by rw [size_new]; omega) (wr.heap.size + 1) (size_new _ _) ?_))
      intro g4 cap4 w4 hown4 hgr hloc hg4
      have OW4 : Hid (OwnL w4 B (.slice (some ⟨g4, 0, none⟩) (us.length + k + 1) cap4) (padV us (k + 1))) := by
        show OwnL _ _ _ _
        rw [padV_succ]
        exact OL.out.snoc BA.out (one_v0 _ _) (by omega) (by rw [PLH.out]; exact hown4) hgr (fun g hg => by
          simp only [Value.ownBlock] at hg
          injection hg with hg
          rcases hloc with hloc | hloc
          · left; rw [hloc, hg]
          · right; rw [size_new]; omega)
      have B4 : Hid (Below B w w4) := (BW.out.trans (BA.out.mono (by omega))).grown hgr (by rw [size_new]; omega) OL.out.from
      clear hown4 hgr hloc hg4
      go_wp2_with fail
      refine ⟨⟨k + 1, some ⟨g4, 0, none⟩, cap4, by omega, rfl, OW4.out, B4.out⟩, ?_⟩
      simp only [lenN]; omega
    · have hji : ¬ ((us.length + k : Nat) : Int) < (n : Int) := by omega
      have hk' : k = n - us.length := by omega
      go_wp2_with fail
      go_ret
      exact ⟨_, rfl, by rw [← hk']; exact OL.out, BW.out⟩
end Go.Proofs.Ytbbbfnfpmaogoaa.Own

namespace Go.Proofs.Ytbbbfnfpmaogoaa.Own
open Go.RowKit

def eq2 (p q : P2) : Bool := p.1 == q.1 && p.2 == q.2
theorem eq2_iff (p q : P2) : eq2 p q = true ↔ p = q := by
  obtain ⟨a, b⟩ := p
  obtain ⟨a', b'⟩ := q
  simp [eq2]
theorem eq2_false (p q : P2) : eq2 p q = false ↔ p ≠ q := by
  rw [← Bool.not_eq_true, eq2_iff]

/-- Two runs are one. -/
def sameRun (xs ys zs us : List P2) (v k v' k' : Int) : Bool := k == k' && v == v' && xs == zs && ys == us
end Go.Proofs.Ytbbbfnfpmaogoaa.Own

namespace Go.Proofs.Ytbbbfnfpmaogoaa.Own
open Go.RowKit
set_option linter.unusedVariables false

theorem eqRead1 (d : Nat) (a b a' b' : Int) (w : World) : (Op.equalIn (d+2) 160 (.agg #[.int .i64 a, .int .i64 b]) (.agg #[.int .i64 a', .int .i64 b'])).run Try.prog w = .ok (eq2 (a, b) (a', b')) w := by
  unfold eq2
  go_simp
  by_cases h : a = a'
  · by_cases h1 : b = b' <;> simp [h, h1]
  · simp [h]
theorem neqRead (a b a' b' : Int) (w : World) : (binOp .neq 160 (.agg #[.int .i64 a, .int .i64 b]) (.agg #[.int .i64 a', .int .i64 b'])).run Try.prog w = .ok (.bool (!(eq2 (a, b) (a', b')))) w := by
  rw [run_neq_struct, eqRead1 9998]; rfl

set_option maxRecDepth 100000 in
set_option maxHeartbeats 1000000 in
theorem equalRead (a1 a2 : Option Addr) (c1 c2 : Nat) (xs ys : List P2) (w : World) (h1 : Sl w a1 xs) (h2 : Sl w a2 ys) (l1 : xs.length ≤ 2 ^ 40) (l2 : ys.length ≤ 2 ^ 40) :
    Calls Try.prog 134 #[.slice a1 xs.length c1, .slice a2 ys.length c2] w fun e w' => e = .returned (.bool (xs == ys)) ∧ Below w.heap.size w w' := by
  have H1 : Hid (Sl w a1 xs) := h1
  have H2 : Hid (Sl w a2 ys) := h2
  clear h1 h2
  by_cases hl : xs.length = ys.length
  · have hl' : ((xs.length : Int) != (ys.length : Int)) = false := by simp [hl]
    have Hl : Hid (xs.length = ys.length) := hl
    clear hl
    go_enter Try.func134, Try.ntmps134
    go_wp2
    go_loopw [13] (fun i wr => ∃ k : Nat, k ≤ xs.length ∧ i = .int .i64 k ∧ Hid (xs.take k = ys.take k) ∧ Below w.heap.size w wr) (fun i _ => xs.length - (intOf i).toNat)
    case atStart => exact ⟨0, Nat.zero_le _, rfl, rfl, Below.refl _ _⟩
    case round =>
      obtain ⟨k, hk, rfl, hE, hB⟩ := hrel
      by_cases hlt : k < xs.length
      · have hlt2 : k < ys.length := by rw [← Hl.out]; exact hlt
        rcases H1.out with h | ⟨b1, o1, rfl, h1⟩
        · subst h; simp at hlt
        rcases H2.out with h | ⟨b2, o2, rfl, h2⟩
        · subst h; simp at hlt2
        have H1' : Hid (BoxAt w b1 o1 xs) := h1
        have H2' : Hid (BoxAt w b2 o2 ys) := h2
        clear h1 h2
        have HT : Hid ((xs.take (k + 1) = ys.take (k + 1)) ↔ (xs.getD k (0, 0) = ys.getD k (0, 0))) := by
          unfold Hid; rw [take_succ_eqG (0, 0) hlt hlt2]; exact ⟨fun h => h.2, fun h => ⟨hE, h⟩⟩
        obtain ⟨p, hp⟩ : ∃ p, p = xs.getD k (0, 0) := ⟨_, rfl⟩
        obtain ⟨q, hq⟩ : ∃ q, q = ys.getD k (0, 0) := ⟨_, rfl⟩
        obtain ⟨ca, cb⟩ := H1'.out.2 k hlt
        obtain ⟨da, db⟩ := H2'.out.2 k hlt2
        rw [← hB.cell H1'.out.1, ← hp] at ca cb
        rw [← hB.cell H2'.out.1, ← hq] at da db
        have HP : Hid (p = xs.getD k (0, 0)) := hp
        have HQ : Hid (q = ys.getD k (0, 0)) := hq
        clear hp hq
        obtain ⟨p1, p2⟩ := p
        obtain ⟨q1, q2⟩ := q
        have HB : Hid (Below w.heap.size w wr) := hB
        clear hB
        have hne := fun w => neqRead p1 p2 q1 q2 w
        by_cases hpq : eq2 (p1, p2) (q1, q2) = true
        · have N : Hid (xs.take (k + 1) = ys.take (k + 1)) := by
            show _ = _
            apply HT.out.2
            rw [← HP.out, ← HQ.out]
            exact (eq2_iff _ _).1 hpq
          rw [hpq] at hne
          go_wp2
          go_quiet (fail)
          go_wp2
          go_roundw
          case rel => exact ⟨k + 1, by omega, by go_num, N, below_drewN HB.out _⟩
          case measure => simp [intOf]; omega
        · have hpq' : eq2 (p1, p2) (q1, q2) = false := by simpa using hpq
          have F : Hid ((xs == ys) = false) := by
            show _ = _
            apply ne_of_getDG (k := k) (0, 0)
            rw [← HP.out, ← HQ.out]
            exact (eq2_false _ _).1 hpq'
          clear hpq
          rw [hpq'] at hne
          go_wp2
          go_quiet (fail)
          go_wp2
          go_ret
          exact ⟨ret_bool F.out.symm, below_drewN HB.out _⟩
      · go_wp2
        go_ret
        have : k = xs.length := by omega
        subst this
        refine ⟨ret_bool ?_, hB⟩
        have h := hE
        unfold Hid at h
        rw [List.take_length] at h
        have h3 := Hl.out
        rw [List.take_of_length_le (by omega)] at h
        simp [h]
  · have hl' : ((xs.length : Int) != (ys.length : Int)) = true := by simp; omega
    go_enter Try.func134, Try.ntmps134
    go_wp2
    go_ret
    refine ⟨ret_bool ?_, Below.refl _ _⟩
    symm
    simp
    intro h; exact hl (by rw [h])
end Go.Proofs.Ytbbbfnfpmaogoaa.Own

namespace Go.Proofs.Ytbbbfnfpmaogoaa.Own
open Go.RowKit
set_option linter.unusedVariables false

/-- Two entries are one. -/
def likeE (n n' : Bool) (p p' : P2) (xs ys zs us : List P2) (v k v' k' : Int) : Bool := n == n' && eq2 p p' && sameRun xs ys zs us v k v' k'
theorem likeE_none {n n' : Bool} (p p' : P2) (xs ys zs us : List P2) (v k v' k' : Int) (h : (n == n') = false) : likeE n n' p p' xs ys zs us v k v' k' = false := by simp [likeE, h]
theorem likeE_req {n n' : Bool} {p p' : P2} (xs ys zs us : List P2) (v k v' k' : Int) (h : eq2 p p' = false) : likeE n n' p p' xs ys zs us v k v' k' = false := by simp [likeE, h]
theorem likeE_run {n n' : Bool} {p p' : P2} (xs ys zs us : List P2) (v k v' k' : Int) (h : (n == n') = true) (h2 : eq2 p p' = true) : likeE n n' p p' xs ys zs us v k v' k' = sameRun xs ys zs us v k v' k' := by simp [likeE, h, h2]

theorem eqReq1 (d : Nat) (a b a' b' : Int) (w : World) : (Op.equalIn (d+2) 28 (.agg #[.int .i64 a, .int .i64 b]) (.agg #[.int .i64 a', .int .i64 b'])).run Try.prog w = .ok (eq2 (a, b) (a', b')) w := by
  unfold eq2
  go_simp
  by_cases h : a = a'
  · by_cases h1 : b = b' <;> simp [h, h1]
  · simp [h]
theorem eqlReq (a b a' b' : Int) (w : World) : (binOp .eql 28 (.agg #[.int .i64 a, .int .i64 b]) (.agg #[.int .i64 a', .int .i64 b'])).run Try.prog w = .ok (.bool (eq2 (a, b) (a', b'))) w := by
  rw [run_eql_struct, eqReq1 9998]; rfl
end Go.Proofs.Ytbbbfnfpmaogoaa.Own

namespace Go.Proofs.Ytbbbfnfpmaogoaa.Own
open Go.RowKit
set_option linter.unusedVariables false

theorem eqPut1 (d : Nat) (a b a' b' : Int) (w : World) : (Op.equalIn (d+2) 162 (.agg #[.int .i64 a, .int .i64 b]) (.agg #[.int .i64 a', .int .i64 b'])).run Try.prog w = .ok (eq2 (a, b) (a', b')) w := by
  unfold eq2
  go_simp
  by_cases h : a = a'
  · by_cases h1 : b = b' <;> simp [h, h1]
  · simp [h]
theorem neqPut (a b a' b' : Int) (w : World) : (binOp .neq 162 (.agg #[.int .i64 a, .int .i64 b]) (.agg #[.int .i64 a', .int .i64 b'])).run Try.prog w = .ok (.bool (!(eq2 (a, b) (a', b')))) w := by
  rw [run_neq_struct, eqPut1 9998]; rfl

set_option maxRecDepth 100000 in
set_option maxHeartbeats 1000000 in
theorem equalPut (a1 a2 : Option Addr) (c1 c2 : Nat) (xs ys : List P2) (w : World) (h1 : Sl w a1 xs) (h2 : Sl w a2 ys) (l1 : xs.length ≤ 2 ^ 40) (l2 : ys.length ≤ 2 ^ 40) :
    Calls Try.prog 135 #[.slice a1 xs.length c1, .slice a2 ys.length c2] w fun e w' => e = .returned (.bool (xs == ys)) ∧ Below w.heap.size w w' := by
  have H1 : Hid (Sl w a1 xs) := h1
  have H2 : Hid (Sl w a2 ys) := h2
  clear h1 h2
  by_cases hl : xs.length = ys.length
  · have hl' : ((xs.length : Int) != (ys.length : Int)) = false := by simp [hl]
    have Hl : Hid (xs.length = ys.length) := hl
    clear hl
    go_enter Try.func135, Try.ntmps135
    go_wp2
    go_loopw [13] (fun i wr => ∃ k : Nat, k ≤ xs.length ∧ i = .int .i64 k ∧ Hid (xs.take k = ys.take k) ∧ Below w.heap.size w wr) (fun i _ => xs.length - (intOf i).toNat)
    case atStart => exact ⟨0, Nat.zero_le _, rfl, rfl, Below.refl _ _⟩
    case round =>
      obtain ⟨k, hk, rfl, hE, hB⟩ := hrel
      by_cases hlt : k < xs.length
      · have hlt2 : k < ys.length := by rw [← Hl.out]; exact hlt
        rcases H1.out with h | ⟨b1, o1, rfl, h1⟩
        · subst h; simp at hlt
        rcases H2.out with h | ⟨b2, o2, rfl, h2⟩
        · subst h; simp at hlt2
        have H1' : Hid (BoxAt w b1 o1 xs) := h1
        have H2' : Hid (BoxAt w b2 o2 ys) := h2
        clear h1 h2
        have HT : Hid ((xs.take (k + 1) = ys.take (k + 1)) ↔ (xs.getD k (0, 0) = ys.getD k (0, 0))) := by
          unfold Hid; rw [take_succ_eqG (0, 0) hlt hlt2]; exact ⟨fun h => h.2, fun h => ⟨hE, h⟩⟩
        obtain ⟨p, hp⟩ : ∃ p, p = xs.getD k (0, 0) := ⟨_, rfl⟩
        obtain ⟨q, hq⟩ : ∃ q, q = ys.getD k (0, 0) := ⟨_, rfl⟩
        obtain ⟨ca, cb⟩ := H1'.out.2 k hlt
        obtain ⟨da, db⟩ := H2'.out.2 k hlt2
        rw [← hB.cell H1'.out.1, ← hp] at ca cb
        rw [← hB.cell H2'.out.1, ← hq] at da db
        have HP : Hid (p = xs.getD k (0, 0)) := hp
        have HQ : Hid (q = ys.getD k (0, 0)) := hq
        clear hp hq
        obtain ⟨p1, p2⟩ := p
        obtain ⟨q1, q2⟩ := q
        have HB : Hid (Below w.heap.size w wr) := hB
        clear hB
        have hne := fun w => neqPut p1 p2 q1 q2 w
        by_cases hpq : eq2 (p1, p2) (q1, q2) = true
        · have N : Hid (xs.take (k + 1) = ys.take (k + 1)) := by
            show _ = _
            apply HT.out.2
            rw [← HP.out, ← HQ.out]
            exact (eq2_iff _ _).1 hpq
          rw [hpq] at hne
          go_wp2
          go_quiet (fail)
          go_wp2
          go_roundw
          case rel => exact ⟨k + 1, by omega, by go_num, N, below_drewN HB.out _⟩
          case measure => simp [intOf]; omega
        · have hpq' : eq2 (p1, p2) (q1, q2) = false := by simpa using hpq
          have F : Hid ((xs == ys) = false) := by
            show _ = _
            apply ne_of_getDG (k := k) (0, 0)
            rw [← HP.out, ← HQ.out]
            exact (eq2_false _ _).1 hpq'
          clear hpq
          rw [hpq'] at hne
          go_wp2
          go_quiet (fail)
          go_wp2
          go_ret
          exact ⟨ret_bool F.out.symm, below_drewN HB.out _⟩
      · go_wp2
        go_ret
        have : k = xs.length := by omega
        subst this
        refine ⟨ret_bool ?_, hB⟩
        have h := hE
        unfold Hid at h
        rw [List.take_length] at h
        have h3 := Hl.out
        rw [List.take_of_length_le (by omega)] at h
        simp [h]
  · have hl' : ((xs.length : Int) != (ys.length : Int)) = true := by simp; omega
    go_enter Try.func135, Try.ntmps135
    go_wp2
    go_ret
    refine ⟨ret_bool ?_, Below.refl _ _⟩
    symm
    simp
    intro h; exact hl (by rw [h])
end Go.Proofs.Ytbbbfnfpmaogoaa.Own

namespace Go.Proofs.Ytbbbfnfpmaogoaa.Own
open Go.RowKit
set_option linter.unusedVariables false
set_option linter.unusedSimpArgs false

set_option maxRecDepth 100000 in
set_option maxHeartbeats 1000000 in
theorem implExecSame (a1 a2 b1 b2 : Option Addr) (c1 c2 d1 d2 : Nat) (xs ys zs us : List P2) (v k v' k' : Int) (w : World) (h1 : Sl w a1 xs) (h2 : Sl w a2 ys) (h3 : Sl w b1 zs) (h4 : Sl w b2 us)
    (n1 : xs.length ≤ 2 ^ 40) (n2 : ys.length ≤ 2 ^ 40) (n3 : zs.length ≤ 2 ^ 40) (n4 : us.length ≤ 2 ^ 40) :
    Calls Try.prog 108 #[.agg #[.slice a1 xs.length c1, .slice a2 ys.length c2, .int .i64 v, .int .i64 k], .agg #[.slice b1 zs.length d1, .slice b2 us.length d2, .int .i64 v', .int .i64 k']] w fun e w' => e = .returned (.bool (sameRun xs ys zs us v k v' k')) ∧ Below w.heap.size w w' := by
  have H1 : Hid (Sl w a1 xs) := h1
  have H2 : Hid (Sl w a2 ys) := h2
  have H3 : Hid (Sl w b1 zs) := h3
  have H4 : Hid (Sl w b2 us) := h4
  clear h1 h2 h3 h4
  have E : Hid (sameRun xs ys zs us v k v' k' = (k == k' && v == v' && xs == zs && ys == us)) := rfl
  obtain ⟨W, hW⟩ : ∃ W, W = (w.alloc (.cells #[.slice a1 xs.length c1, .slice a2 ys.length c2, .int .i64 v, .int .i64 k] 32)).alloc (.cells #[.slice b1 zs.length d1, .slice b2 us.length d2, .int .i64 v', .int .i64 k'] 32) := ⟨_, rfl⟩
  have hbW : Hid (Below w.heap.size w W) := by
    show Below _ _ _
    rw [hW]; exact ((Below.refl _ _).alloc (Nat.le_refl _) _).alloc (by simp) _
  have hsW : Hid (W.heap.size = w.heap.size + 2) := by show _ = _; rw [hW]; simp
  have g0 : Hid (W.heap[w.heap.size]? = some (.cells #[.slice a1 xs.length c1, .slice a2 ys.length c2, .int .i64 v, .int .i64 k] 32 (0, 0))) := by
    show _ = _
    rw [hW]; exact heap_new1 _ _ _
  have g1 : Hid (W.heap[w.heap.size + 1]? = some (.cells #[.slice b1 zs.length d1, .slice b2 us.length d2, .int .i64 v', .int .i64 k'] 32 (0, 0))) := by
    show _ = _
    rw [hW]; exact heap_new2 _ _ _
  have HW : Hid (W = _) := hW
  clear hW
  cases hk : (k == k') with
  | false =>
    go_enter Try.func108, Try.ntmps108
    go_wp2_with fail
    go_ret
    exact ⟨ret_bool (by rw [E.out, hk]; rfl), by rw [← HW.out]; exact hbW.out⟩
  | true =>
    cases hv : (v == v') with
    | false =>
      go_enter Try.func108, Try.ntmps108
      go_wp2_with fail
      go_ret
      exact ⟨ret_bool (by rw [E.out, hv]; simp), by rw [← HW.out]; exact hbW.out⟩
    | true =>
      have E2 : Hid (sameRun xs ys zs us v k v' k' = (xs == zs && ys == us)) := by show _ = _; rw [E.out, hk, hv]; rfl
      have C1 := equalRead a1 b1 c1 d1 xs zs W (H1.out.below hbW.out) (H3.out.below hbW.out) n1 n3
      generalize (xs == zs) = r at E2 C1
      have C1' : Hid (Calls Try.prog 134 #[.slice a1 xs.length c1, .slice b1 zs.length d1] W fun e w' => e = .returned (.bool r) ∧ Below W.heap.size W w') := C1
      clear C1
      go_enter Try.func108, Try.ntmps108
      go_wp2_with fail
      rw [← HW.out]
      refine C1'.out.mono ?_
      rintro e w1 ⟨rfl, b1'⟩
      have B1 : Hid (Below w.heap.size w w1) := hbW.out.trans (b1'.mono hbW.out.size)
      have q0 : w1.cell? ⟨w.heap.size, 1, none⟩ = some (.slice a2 ys.length c2) := by rw [b1'.cell (p := ⟨w.heap.size, 1, none⟩) (by show w.heap.size < _; have := hsW.out; omega), cell_heap g0.out]; rfl
      have q1 : w1.cell? ⟨w.heap.size + 1, 1, none⟩ = some (.slice b2 us.length d2) := by rw [b1'.cell (p := ⟨w.heap.size + 1, 1, none⟩) (by show w.heap.size + 1 < _; have := hsW.out; omega), cell_heap g1.out]; rfl
      clear b1'
      cases r with
      | false =>
        go_wp2_with fail
        go_ret
        exact ⟨ret_bool (by rw [E2.out]; rfl), B1.out⟩
      | true =>
        go_wp2_with fail
        refine (equalPut a2 b2 c2 d2 ys us w1 (H2.out.below B1.out) (H4.out.below B1.out) n2 n4).mono ?_
        rintro e w2 ⟨rfl, b2'⟩
        have B2 : Hid (Below w.heap.size w w2) := B1.out.trans (b2'.mono B1.out.size)
        clear b2'
        generalize (ys == us) = r2 at E2
        go_wp2_with fail
        go_ret
        exact ⟨ret_bool (by rw [E2.out]; rfl), B2.out⟩
end Go.Proofs.Ytbbbfnfpmaogoaa.Own

namespace Go.Proofs.Ytbbbfnfpmaogoaa.Own
open Go.RowKit
set_option linter.unusedVariables false
set_option linter.unusedSimpArgs false

set_option maxRecDepth 100000 in
set_option maxHeartbeats 1000000 in
theorem implCertLike (n n' : Bool) (p q p' q' : Int) (a1 a2 b1 b2 : Option Addr) (c1 c2 d1 d2 : Nat) (xs ys zs us : List P2) (v k v' k' : Int) (w : World) (h1 : Sl w a1 xs) (h2 : Sl w a2 ys) (h3 : Sl w b1 zs) (h4 : Sl w b2 us)
    (n1 : xs.length ≤ 2 ^ 40) (n2 : ys.length ≤ 2 ^ 40) (n3 : zs.length ≤ 2 ^ 40) (n4 : us.length ≤ 2 ^ 40) :
    Calls Try.prog 48 #[.agg #[.bool n, .int .i64 p, .int .i64 q, .slice a1 xs.length c1, .slice a2 ys.length c2, .int .i64 v, .int .i64 k], .agg #[.bool n', .int .i64 p', .int .i64 q', .slice b1 zs.length d1, .slice b2 us.length d2, .int .i64 v', .int .i64 k']] w fun e w' => e = .returned (.bool (likeE n n' (p, q) (p', q') xs ys zs us v k v' k')) ∧ Below w.heap.size w w' := by
  have H1 : Hid (Sl w a1 xs) := h1
  have H2 : Hid (Sl w a2 ys) := h2
  have H3 : Hid (Sl w b1 zs) := h3
  have H4 : Hid (Sl w b2 us) := h4
  clear h1 h2 h3 h4
  obtain ⟨W, hW⟩ : ∃ W, W = (w.alloc (.cells #[.bool n, .int .i64 p, .int .i64 q, .slice a1 xs.length c1, .slice a2 ys.length c2, .int .i64 v, .int .i64 k] 34)).alloc (.cells #[.bool n', .int .i64 p', .int .i64 q', .slice b1 zs.length d1, .slice b2 us.length d2, .int .i64 v', .int .i64 k'] 34) := ⟨_, rfl⟩
  have BW : Hid (Below w.heap.size w W) := by
    show Below _ _ _
    rw [hW]; exact ((Below.refl _ _).alloc (Nat.le_refl _) _).alloc (by simp) _
  have HW : Hid (W = _) := hW
  clear hW
  have hq := fun w => eqlReq p q p' q' w
  cases hn : (n == n') with
  | false =>
    have F : Hid (likeE n n' (p, q) (p', q') xs ys zs us v k v' k' = false) := likeE_none _ _ _ _ _ _ _ _ _ _ hn
    go_enter Try.func48, Try.ntmps48
    go_wp2_with fail
    go_ret
    exact ⟨ret_bool F.out.symm, by rw [← HW.out]; exact BW.out⟩
  | true =>
    cases he : eq2 (p, q) (p', q') with
    | false =>
      have F : Hid (likeE n n' (p, q) (p', q') xs ys zs us v k v' k' = false) := likeE_req _ _ _ _ _ _ _ _ he
      rw [he] at hq
      go_enter Try.func48, Try.ntmps48
      go_wp2_with fail
      go_ret
      exact ⟨ret_bool F.out.symm, by rw [← HW.out]; exact BW.out⟩
    | true =>
      have F : Hid (likeE n n' (p, q) (p', q') xs ys zs us v k v' k' = sameRun xs ys zs us v k v' k') := likeE_run _ _ _ _ _ _ _ _ hn he
      rw [he] at hq
      go_enter Try.func48, Try.ntmps48
      go_wp2_with fail
      rw [← HW.out]
      refine (implExecSame a1 a2 b1 b2 c1 c2 d1 d2 xs ys zs us v k v' k' W (H1.out.below BW.out) (H2.out.below BW.out) (H3.out.below BW.out) (H4.out.below BW.out) n1 n2 n3 n4).mono ?_
      rintro e w1 ⟨rfl, b1'⟩
      have B1 : Hid (Below w.heap.size w w1) := BW.out.trans (b1'.mono BW.out.size)
      clear b1'
      generalize sameRun xs ys zs us v k v' k' = r at F
      go_wp2_with fail
      go_ret
      exact ⟨ret_bool F.out.symm, B1.out⟩
end Go.Proofs.Ytbbbfnfpmaogoaa.Own

namespace Go.Proofs.Ytbbbfnfpmaogoaa.Own
open Go.RowKit
set_option linter.unusedVariables false
set_option linter.unusedSimpArgs false

set_option maxHeartbeats 400000 in
theorem isNumberC (n : Int) (w : World) : Calls Try.prog 185 #[.int .i64 n] w fun e w' => e = .returned (.bool (numOk n)) ∧ w' = w := by
  have e : Hid (numOk n = (decide (-1000000 ≤ n) && decide (n ≤ 1000000))) := rfl
  by_cases h1 : -1000000 ≤ n
  · by_cases h2 : n ≤ 1000000
    all_goals
      go_enter Try.func185, Try.ntmps185
      go_wp2
      go_ret
      exact ⟨ret_bool (by rw [e.out]; simp [h1, h2]), rfl⟩
  · have h1' : decide (-1000000 ≤ n) = false := by simpa using h1
    go_enter Try.func185, Try.ntmps185
    go_wp2
    go_ret
    exact ⟨ret_bool (by rw [e.out, h1']; rfl), rfl⟩

set_option maxHeartbeats 400000 in
theorem firstYes (b off j : Nat) (w : World) (hj : j < 4) (hc : w.cell? ⟨b, off + j, none⟩ = some (.bool false)) (hf : w.frozen? ⟨b, off + j, none⟩ = false) :
    Calls Try.prog 186 #[.pointer (some ⟨b, off, none⟩), .int .i64 j] w fun e w' => e = .returned (.bool true) ∧ w' = w.setCell ⟨b, off + j, none⟩ (.bool true) := by
  have h1 : ¬ (4 : Int) ≤ (j : Int) := by omega
  go_enter Try.func186, Try.ntmps186
  go_wp2
  go_ret
  exact ⟨rfl, rfl⟩

set_option maxHeartbeats 400000 in
theorem firstTwice (b off j : Nat) (w : World) (hj : j < 4) (hc : w.cell? ⟨b, off + j, none⟩ = some (.bool true)) :
    Calls Try.prog 186 #[.pointer (some ⟨b, off, none⟩), .int .i64 j] w fun e w' => e = .returned (.bool false) ∧ w' = w := by
  have h1 : ¬ (4 : Int) ≤ (j : Int) := by omega
  go_enter Try.func186, Try.ntmps186
  go_wp2
  go_ret
  exact ⟨rfl, rfl⟩

set_option maxHeartbeats 400000 in
theorem firstNone (p : Option Addr) (n : Int) (w : World) (h : regOk n = false) :
    Calls Try.prog 186 #[.pointer p, .int .i64 n] w fun e w' => e = .returned (.bool false) ∧ w' = w := by
  by_cases h0 : n < 0
  · clear h
    go_enter Try.func186, Try.ntmps186
    go_wp2
    go_ret
    exact ⟨rfl, rfl⟩
  · have h4 : 4 ≤ n := by
      simp [regOk] at h
      omega
    clear h
    go_enter Try.func186, Try.ntmps186
    go_wp2
    go_ret
    exact ⟨rfl, rfl⟩

/-- Marks of boxes in memory. -/
def MarksAt (w : World) (b off : Nat) (m : Nat → Bool) : Prop := b < w.heap.size ∧ (∀ j, j < 4 → w.cell? ⟨b, off + j, none⟩ = some (.bool (m j))) ∧ (∀ o, w.frozen? ⟨b, o, none⟩ = false)

theorem MarksAt.keep {w w' : World} {b off : Nat} {m : Nat → Bool} (h : MarksAt w b off m) (hs : w.heap.size ≤ w'.heap.size) (hb : w'.heap[b]? = w.heap[b]?) : MarksAt w' b off m :=
  ⟨Nat.lt_of_lt_of_le h.1 hs, fun j hj => by rw [World.cell?_of_block (w := w) (a := ⟨b, off + j, none⟩) hb]; exact h.2.1 j hj, fun o => by rw [World.frozen?_of_block (w := w) (a := ⟨b, o, none⟩) hb]; exact h.2.2 o⟩
theorem MarksAt.alloc {w : World} {b off : Nat} {m : Nat → Bool} (h : MarksAt w b off m) (o : Obj) : MarksAt (w.alloc o) b off m :=
  h.keep (by rw [size_new]; omega) (heap_old w o b h.1)
theorem MarksAt.congr {w : World} {b off : Nat} {m m' : Nat → Bool} (h : MarksAt w b off m) (e : ∀ j, j < 4 → m j = m' j) : MarksAt w b off m' :=
  ⟨h.1, fun j hj => by rw [← e j hj]; exact h.2.1 j hj, h.2.2⟩
theorem MarksAt.set {w : World} {b off : Nat} {m : Nat → Bool} (h : MarksAt w b off m) (i : Nat) (hi : i < 4) : MarksAt (w.setCell ⟨b, off + i, none⟩ (.bool true)) b off (fun j => m j || decide (i = j)) := by
  refine ⟨by simpa [World.setCell] using h.1, fun j hj => ?_, fun o => by simpa using h.2.2 o⟩
  by_cases e : i = j
  · subst e
    rw [setCell_cell_same _ _ _ _ _ (h.2.1 i hi)]; simp
  · rw [setCell_cell_other _ _ _ _ _ (by omega), h.2.1 j hj]; simp [e]

theorem marks_new (w : World) (t : TypeId) : MarksAt (w.alloc (.cells #[.bool false, .bool false, .bool false, .bool false] t)) w.heap.size 0 (fun _ => false) := by
  refine ⟨by rw [size_new]; omega, fun j hj => ?_, fun o => frozen_heap (heap_new _ _) o⟩
  rw [cell_heap (heap_new _ _)]
  match j, hj with
  | 0, _ | 1, _ | 2, _ | 3, _ => rfl

theorem regOk_nat {n : Int} (h : regOk n = true) : ∃ j : Nat, j < 4 ∧ n = j := by
  simp [regOk] at h
  exact ⟨n.toNat, by omega, by omega⟩
theorem regOk_of (j : Nat) (h : j < 4) : regOk (j : Int) = true := by
  simp [regOk]; omega

theorem seen_step {xs : List P2} {k j : Nat} (h : k < xs.length) (hj : (xs.getD k (0, 0)).1 = (j : Int)) (i : Nat) : seen xs (k + 1) i = (seen xs k i || decide (j = i)) := by
  rw [seen_succ _ _ _ h, hj]
  congr 1
  rw [Bool.eq_iff_iff]; simp only [beq_iff_eq, decide_eq_true_eq]; omega

set_option maxRecDepth 100000 in
set_option maxHeartbeats 1000000 in
theorem readsOkC (a : Option Addr) (c : Nat) (xs : List P2) (w : World) (h : Sl w a xs) (hn : xs.length ≤ 2 ^ 40) :
    Calls Try.prog 183 #[.slice a xs.length c] w fun e w' => e = .returned (.bool (okAll verOk xs)) ∧ Below w.heap.size w w' := by
  have H1 : Hid (Sl w a xs) := h
  clear h
  go_enter Try.func183, Try.ntmps183
  go_wp2
  go_loopw [8] (fun i wr => ∃ k : Nat, k ≤ xs.length ∧ i = .int .i64 k ∧ Hid (∀ i, i < k → okAt verOk xs i = true) ∧ MarksAt wr w.heap.size 0 (seen xs k) ∧ Below w.heap.size w wr) (fun i _ => xs.length - (intOf i).toNat)
  case atStart => exact ⟨0, Nat.zero_le _, rfl, fun i hi => by omega, (marks_new w _).congr fun j _ => (seen_zero xs j).symm, (Below.refl _ _).alloc (Nat.le_refl _) _⟩
  case round =>
    obtain ⟨k, hk, rfl, hA, hM, hB⟩ := hrel
    by_cases hlt : k < xs.length
    · rcases H1.out with h | ⟨b1, o1, rfl, h1⟩
      · subst h; simp at hlt
      have H1' : Hid (BoxAt w b1 o1 xs) := h1
      clear h1
      obtain ⟨p, hp⟩ : ∃ p, p = xs.getD k (0, 0) := ⟨_, rfl⟩
      obtain ⟨ca, cb⟩ := H1'.out.2 k hlt
      rw [← hB.cell H1'.out.1, ← hp] at ca cb
      have HP : Hid (p = xs.getD k (0, 0)) := hp
      have HB : Hid (Below w.heap.size w wr) := hB
      have HM : Hid (MarksAt wr w.heap.size 0 (seen xs k)) := hM
      clear hp hB hM
      obtain ⟨p1, p2⟩ := p
      have F : Hid (okAt verOk xs k = false → okAll verOk xs = false) := fun t => okAll_false hlt t
      have HBa : ∀ o, Hid (Below w.heap.size w (wr.alloc o)) := fun o => HB.out.alloc HB.out.size _
      cases hr : regOk p1 with
      | false =>
        have F' : Hid (okAll verOk xs = false) := F.out (by unfold okAt; rw [← HP.out]; simp only [hr, Bool.false_and])
        have HR : Hid (regOk p1 = false) := hr
        clear F hr
        go_wp2_with fail
        refine (firstNone _ p1 _ HR.out).mono ?_
        rintro e w1 ⟨rfl, rfl⟩
        go_wp2
        go_ret
        exact ⟨ret_bool F'.out.symm, (HBa _).out⟩
      | true =>
        obtain ⟨j, hj, rfl⟩ := regOk_nat hr
        clear hr
        have HJ : Hid ((xs.getD k (0, 0)).1 = (j : Int)) := by show _ = _; rw [← HP.out]
        have HS : Hid (okAt verOk xs k = (regOk (j : Int) && verOk p2 && !seen xs k j)) := by
          show _ = _
          rw [okAt_seen verOk xs k j HJ.out, ← HP.out]
        cases hs : seen xs k j with
        | true =>
          have F' : Hid (okAll verOk xs = false) := F.out (by rw [HS.out, hs]; simp)
          have hc : Hid (∀ o, (wr.alloc o).cell? ⟨w.heap.size, 0 + j, none⟩ = some (.bool true)) := fun o => by
            have := (HM.out.alloc o).2.1 j hj
            rw [hs] at this; exact this
          clear F hs
          go_wp2_with fail
          refine (firstTwice w.heap.size 0 j _ hj (hc.out _)).mono ?_
          rintro e w1 ⟨rfl, rfl⟩
          go_wp2
          go_ret
          exact ⟨ret_bool F'.out.symm, (HBa _).out⟩
        | false =>
          have hc : Hid (∀ o, (wr.alloc o).cell? ⟨w.heap.size, 0 + j, none⟩ = some (.bool false) ∧ (wr.alloc o).frozen? ⟨w.heap.size, 0 + j, none⟩ = false) := fun o => by
            have := (HM.out.alloc o).2.1 j hj
            rw [hs] at this; exact ⟨this, (HM.out.alloc o).2.2 _⟩
          have HS' : Hid (seen xs k j = false) := hs
          clear hs
          have AF : Hid (∀ w1, w1 = (wr.alloc (.cells #[.int .i64 (j : Int), .int .i64 p2] 160)).setCell ⟨w.heap.size, 0 + j, none⟩ (.bool true) → w1.cell? ⟨wr.heap.size, 1, none⟩ = some (.int .i64 p2) ∧ Hid (MarksAt w1 w.heap.size 0 (seen xs (k + 1))) ∧ Hid (Below w.heap.size w w1)) := by
            intro w1 hw
            have hsz : w.heap.size < wr.heap.size := HM.out.1
            refine ⟨?_, ?_, ?_⟩
            · rw [hw, World.cell?_setCell_other _ _ _ _ (by intro e; injection e with e1; omega), cell_heap (heap_new _ _)]; rfl
            · rw [hw]; exact ((HM.out.alloc _).set j hj).congr fun i hi => (seen_step hlt HJ.out i).symm
            · rw [hw]; exact (HBa _).out.setCell (Nat.le_refl _) _
          by_cases t1 : p2 < 0
          · have F' : Hid (okAll verOk xs = false) := F.out (by rw [HS.out]; simp [verOk]; omega)
            clear F
            go_wp2_with fail
            refine (firstYes w.heap.size 0 j _ hj (hc.out _).1 (hc.out _).2).mono ?_
            rintro e w1 ⟨rfl, hw⟩
            obtain ⟨c1, M1, B1⟩ := AF.out w1 hw
            clear hw AF
            go_wp2
            go_ret
            exact ⟨ret_bool F'.out.symm, B1.out⟩
          · by_cases t2 : 1000000 < p2
            · have F' : Hid (okAll verOk xs = false) := F.out (by rw [HS.out]; simp [verOk]; omega)
              clear F
              go_wp2_with fail
              refine (firstYes w.heap.size 0 j _ hj (hc.out _).1 (hc.out _).2).mono ?_
              rintro e w1 ⟨rfl, hw⟩
              obtain ⟨c1, M1, B1⟩ := AF.out w1 hw
              clear hw AF
              go_wp2
              go_ret
              exact ⟨ret_bool F'.out.symm, B1.out⟩
            · have N : Hid (∀ i, i < k + 1 → okAt verOk xs i = true) := by
                intro i hi
                by_cases e : i = k
                · subst e
                  rw [HS.out, HS'.out, regOk_of j hj]; simp [verOk]; omega
                · exact hA.out i (by omega)
              clear F
              go_wp2_with fail
              refine (firstYes w.heap.size 0 j _ hj (hc.out _).1 (hc.out _).2).mono ?_
              rintro e w1 ⟨rfl, hw⟩
              obtain ⟨c1, M1, B1⟩ := AF.out w1 hw
              clear hw AF
              go_wp2
              go_roundw
              case rel => exact ⟨k + 1, by omega, by go_num, N, M1.out, B1.out⟩
              case measure => simp [intOf]; omega
    · go_wp2
      go_ret
      have : k = xs.length := by omega
      subst this
      exact ⟨ret_bool (okAll_iff.2 hA.out).symm, hB⟩
end Go.Proofs.Ytbbbfnfpmaogoaa.Own
