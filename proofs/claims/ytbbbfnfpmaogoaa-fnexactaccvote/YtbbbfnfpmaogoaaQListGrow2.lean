/-
  Own text: what (impl.voteList).grown does, and what it leaves as it was.
-/
import Derived.Test.YtbbbfnfpmaogoaaPk5
namespace Go.Proofs.Ytbbbfnfpmaogoaa.Own
open Go.RowKit
set_option linter.unusedVariables false
set_option linter.unusedSimpArgs false

/-- Of the blocks that were there none has turned but the row's. -/
structure But1 (ro : Option Nat) (w w' : World) : Prop where
  os : w'.os = w.os
  tape : w'.tape = w.tape
  output : w'.output = w.output
  size : w.heap.size ≤ w'.heap.size
  block : ∀ b, b < w.heap.size → ro ≠ some b → w'.heap[b]? = w.heap[b]?
theorem But1.refl (ro : Option Nat) (w : World) : But1 ro w w := ⟨rfl, rfl, rfl, Nat.le_refl _, fun _ _ _ => rfl⟩
theorem Blk.but1 {ro : Option Nat} {w w' : World} {b : Nat} {C : Array Value} {t : TypeId} (h : Blk w b C t) (k : But1 ro w w') (hn : ro ≠ some b) : Blk w' b C t := by
  unfold Blk; rw [k.block b h.lt hn]; exact h
theorem But1.below {ro : Option Nat} {w w' : World} {B : Nat} (k : But1 ro w w') (hB : B ≤ w.heap.size) (hr : ∀ g, ro = some g → B ≤ g) : Below B w w' :=
  ⟨k.os, k.tape, k.output, k.size, fun b hb => k.block b (by omega) (fun e => by have := hr b e; omega)⟩

set_option maxRecDepth 100000 in
set_option maxHeartbeats 2000000 in
theorem listGrownB (v : Value) (us : List VM) (n : Nat) (w : World) (B : Nat) (h : OwnL w B v us) (hB : B ≤ w.heap.size) (hu : us.length ≤ 2 ^ 30) (hn : n ≤ 2 ^ 30) :
    Calls Try.prog 81 #[v, .int .i64 n] w fun e w' => ∃ v', e = .returned v' ∧ OwnL w' B v' (padV us (n - us.length)) ∧ But1 v.ownBlock w w' ∧ (v'.ownBlock = v.ownBlock ∨ ∀ g, v'.ownBlock = some g → w.heap.size ≤ g) := by
  obtain ⟨a0, cap0, rfl⟩ := h.form
  have H : Hid (OwnL w B (.slice a0 us.length cap0) us) := h
  clear h
  obtain ⟨i0, hi, hz0, hz1, hz2⟩ := info_parts infoVoteC
  have I0 : Hid (Try.prog.info? 86 = some i0 ∧ i0.zero = some (.agg #[.int .i64 0, .bool false, .int .i64 0, .int .i64 0, .slice none 0 0, .slice none 0 0, .int .i64 0, .int .i64 0]) ∧ i0.size = 8 ∧ i0.bytes = 96) := ⟨hi, hz0, hz1, hz2⟩
  clear hi hz0 hz1 hz2
  go_enter Try.func81, Try.ntmps81
  go_wp2_with fail
  go_loopw [0] (fun o wr => ∃ (k : Nat) (a : Option Addr) (cap : Nat), k ≤ n - us.length ∧ o = .slice a (us.length + k) cap ∧ Hid (OwnL wr B (.slice a (us.length + k) cap) (padV us k)) ∧ Hid (But1 (Value.slice a0 us.length cap0).ownBlock w wr) ∧ Hid ((Value.slice a (us.length + k) cap).ownBlock = (Value.slice a0 us.length cap0).ownBlock ∨ ∀ g, (Value.slice a (us.length + k) cap).ownBlock = some g → w.heap.size ≤ g)) (fun o _ => n - lenN o)
  case atStart => exact ⟨0, a0, cap0, Nat.zero_le _, rfl, by show OwnL _ _ _ _; simpa [padV] using H.out, But1.refl _ _, .inl rfl⟩
  case round =>
    obtain ⟨k, a, cap, hk, rfl, OL, BW, AR⟩ := hrel
    by_cases hlt : us.length + k < n
    · have hji : ((us.length + k : Nat) : Int) < (n : Int) := by omega
      have s1 := BW.out.size
      have BA : Hid (Below wr.heap.size wr (wr.alloc (.cells v0.cells 86))) := (Below.refl _ _).alloc (Nat.le_refl _) _
      have PL := padV_len us k
      have OK : Hid (OwnL (wr.alloc (.cells v0.cells 86)) B (.slice a (us.length + k) cap) (padV us k)) := OL.out.keep BA.out
      have RW : Hid ((wr.alloc (.cells v0.cells 86)).ownsRow B 86 8 (.slice a (us.length + k) cap) (us.length + k) (flat8 (padV us k))) := by
        have := OK.out.row
        rw [PL] at this
        exact this
      have PLH : Hid ((padV us k).length = us.length + k) := PL
      clear PL
      go_wp2_with (at_builtin; go_loud (refine wpList_append_lies _ rfl (.tmp 9) (.tmp 11) 114 rfl B 86 i0 _ 8 96 Try.underlying114 I0.out.1 I0.out.2.1 I0.out.2.2.1 I0.out.2.2.2 rfl (by decide) (.slice a (us.length + k) cap) (us.length + k) (flat8 (padV us k)) rfl RW.out ⟨wr.heap.size, 0, none⟩ 1 1 v0.cells.toList rfl rfl (eight_new wr v0) (cells_one v0) (by decide) (by unfold maxLen; omega) (by omega) (by rw [size_new]; omega) (wr.heap.size + 1) (size_new _ _) ?_))
      intro g4 cap4 w4 hown4 hgr hloc hg4
      have OW4 : Hid (OwnL w4 B (.slice (some ⟨g4, 0, none⟩) (us.length + k + 1) cap4) (padV us (k + 1))) := by
        show OwnL _ _ _ _
        rw [padV_succ]
        exact OL.out.snoc BA.out (one_v0 _ _) (by omega) (by rw [PLH.out]; exact hown4) hgr (fun g hg => by
          simp only [Value.ownBlock] at hg
          injection hg with hg
          rcases hloc with hloc | hloc
          · left; rw [hloc, hg]
          · right; rw [size_new]; omega)
      have blk4 : ∀ b, b < wr.heap.size → (Value.slice a (us.length + k) cap).ownBlock ≠ some b → w4.heap[b]? = wr.heap[b]? := fun b hb hn => (hgr.block b (by rw [size_new]; omega) (fun e => hn e.symm)).trans (heap_old _ _ _ hb)
      have N4 : Hid (But1 (Value.slice a0 us.length cap0).ownBlock w w4) := ⟨hgr.os.trans BW.out.os, hgr.tape.trans BW.out.tape, hgr.output.trans BW.out.output, by have := hgr.size; rw [size_new] at this; omega, fun b hb h1 => (blk4 b (by omega) (fun e => by
        rcases AR.out with ar | ar
        · exact h1 (by rw [← ar]; exact e)
        · have := ar b e; omega)).trans (BW.out.block b hb h1)⟩
      have A4 : Hid ((Value.slice (some ⟨g4, 0, none⟩) (us.length + k + 1) cap4).ownBlock = (Value.slice a0 us.length cap0).ownBlock ∨ ∀ g, (Value.slice (some ⟨g4, 0, none⟩) (us.length + k + 1) cap4).ownBlock = some g → w.heap.size ≤ g) := by
        show _ ∨ _
        rcases hloc with hl | hl
        · rcases AR.out with ar | ar
          · left; rw [← ar, hl]; rfl
          · right
            intro g hg
            simp only [Value.ownBlock] at hg
            injection hg with hg
            have := ar g4 hl
            omega
        · right
          intro g hg
          simp only [Value.ownBlock] at hg
          injection hg with hg
          omega
      clear hown4 hgr hloc hg4 blk4
      go_wp2_with fail
      refine ⟨⟨k + 1, some ⟨g4, 0, none⟩, cap4, by omega, rfl, OW4.out, N4.out, A4.out⟩, ?_⟩
      simp only [lenN]; omega
    · have hji : ¬ ((us.length + k : Nat) : Int) < (n : Int) := by omega
      have hk' : k = n - us.length := by omega
      go_wp2_with fail
      go_ret
      exact ⟨_, rfl, by rw [← hk']; exact OL.out, BW.out, by show (Value.slice a (us.length + (n - us.length)) cap).ownBlock = _ ∨ ∀ g, (Value.slice a (us.length + (n - us.length)) cap).ownBlock = some g → _; rw [← hk']; exact AR.out⟩
end Go.Proofs.Ytbbbfnfpmaogoaa.Own
