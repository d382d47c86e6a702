/-
  Own text: what (impl.voteList).grown does.
-/
import Derived.Test.YtbbbfnfpmaogoaaListCopy
namespace Go.Proofs.Ytbbbfnfpmaogoaa.Own
open Go.RowKit
set_option linter.unusedVariables false
set_option linter.unusedSimpArgs false

theorem OwnL.form {w : World} {B : Nat} {v : Value} {vs : List VM} (h : OwnL w B v vs) : ∃ a cap, v = .slice a vs.length cap := by
  obtain ⟨_, hr⟩ := h.row
  rcases hr with ⟨hv, h0⟩ | ⟨g, cap, cur, hv, _⟩
  · exact ⟨none, 0, by rw [hv, h0]⟩
  · exact ⟨some ⟨g, 0, none⟩, cap, hv⟩
theorem OwnL.from {w : World} {B : Nat} {v : Value} {vs : List VM} (h : OwnL w B v vs) : ∀ k, v.ownBlock = some k → B ≤ k := by
  intro k hk
  obtain ⟨_, hr⟩ := h.row
  rcases hr with ⟨e, _⟩ | ⟨g, cap, cur, e, hg, _⟩
  · rw [e] at hk; cases hk
  · rw [e] at hk
    simp only [Value.ownBlock] at hk
    injection hk with hk
    omega
theorem one_v0 (w : World) (B : Nat) : OneOwn w B v0 :=
  ⟨.inl rfl, .inl rfl, Nat.le_refl _, Nat.le_refl _, fun b h => by simp [blk1, blkOf, v0, e0] at h, fun b h => by simp [blk2, blkOf, v0, e0] at h, fun b h => by simp [blk1, blkOf, v0, e0] at h⟩
/-- Votes, and behind them so many that are none. -/
def padV (us : List VM) (k : Nat) : List VM := us ++ List.replicate k v0
theorem padV_len (us : List VM) (k : Nat) : (padV us k).length = us.length + k := by simp [padV]
theorem padV_succ (us : List VM) (k : Nat) : padV us (k + 1) = padV us k ++ [v0] := by simp [padV, List.replicate_succ', List.append_assoc]

def lenN : Value → Nat
  | .slice _ n _ => n
  | _ => 0

set_option maxRecDepth 100000 in
set_option maxHeartbeats 2000000 in
theorem listGrown (v : Value) (us : List VM) (n : Nat) (w : World) (B : Nat) (h : OwnL w B v us) (hB : B ≤ w.heap.size) (hu : us.length ≤ 2 ^ 30) (hn : n ≤ 2 ^ 30) :
    Calls Try.prog 81 #[v, .int .i64 n] w fun e w' => ∃ v', e = .returned v' ∧ OwnL w' B v' (padV us (n - us.length)) ∧ Below B w w' := by
  obtain ⟨a0, cap0, rfl⟩ := h.form
  have H : Hid (OwnL w B (.slice a0 us.length cap0) us) := h
  clear h
  obtain ⟨i0, hi, hz0, hz1, hz2⟩ := info_parts infoVoteC
  have I0 : Hid (Try.prog.info? 86 = some i0 ∧ i0.zero = some (.agg #[.int .i64 0, .bool false, .int .i64 0, .int .i64 0, .slice none 0 0, .slice none 0 0, .int .i64 0, .int .i64 0]) ∧ i0.size = 8 ∧ i0.bytes = 96) := ⟨hi, hz0, hz1, hz2⟩
  clear hi hz0 hz1 hz2
  go_enter Try.func81, Try.ntmps81
  go_wp2_with fail
  go_loopw [0] (fun o wr => ∃ (k : Nat) (a : Option Addr) (cap : Nat), k ≤ n - us.length ∧ o = .slice a (us.length + k) cap ∧ Hid (OwnL wr B (.slice a (us.length + k) cap) (padV us k)) ∧ Hid (Below B w wr)) (fun o _ => n - lenN o)
  case atStart => exact ⟨0, a0, cap0, Nat.zero_le _, rfl, by show OwnL _ _ _ _; simpa [padV] using H.out, Below.refl _ _⟩
  case round =>
    obtain ⟨k, a, cap, hk, rfl, OL, BW⟩ := hrel
    by_cases hlt : us.length + k < n
    · have hji : ((us.length + k : Nat) : Int) < (n : Int) := by omega
      have s1 := BW.out.size
      have BA : Hid (Below wr.heap.size wr (wr.alloc (.cells v0.cells 86))) := (Below.refl _ _).alloc (Nat.le_refl _) _
      have PL := padV_len us k
      have OK : Hid (OwnL (wr.alloc (.cells v0.cells 86)) B (.slice a (us.length + k) cap) (padV us k)) := OL.out.keep BA.out
      have RW : Hid ((wr.alloc (.cells v0.cells 86)).ownsRow B 86 8 (.slice a (us.length + k) cap) (us.length + k) (flat8 (padV us k))) := by
        have := OK.out.row
        rw [PL] at this
        exact this
      have PLH : Hid ((padV us k).length = us.length + k) := PL
      clear PL
      go_wp2_with (at_builtin; go_loud (refine wpList_append_lies _ rfl (.tmp 9) (.tmp 11) 114 rfl B 86 i0 _ 8 96 Try.underlying114 I0.out.1 I0.out.2.1 I0.out.2.2.1 I0.out.2.2.2 rfl (by decide) (.slice a (us.length + k) cap) (us.length + k) (flat8 (padV us k)) rfl RW.out ⟨wr.heap.size, 0, none⟩ 1 1 v0.cells.toList rfl rfl (eight_new wr v0) (cells_one v0) (by decide) (by unfold maxLen; omega) (by omega) (by rw [size_new]; omega) (wr.heap.size + 1) (size_new _ _) ?_))
      intro g4 cap4 w4 hown4 hgr hloc hg4
      have OW4 : Hid (OwnL w4 B (.slice (some ⟨g4, 0, none⟩) (us.length + k + 1) cap4) (padV us (k + 1))) := by
        show OwnL _ _ _ _
        rw [padV_succ]
        exact OL.out.snoc BA.out (one_v0 _ _) (by omega) (by rw [PLH.out]; exact hown4) hgr (fun g hg => by
          simp only [Value.ownBlock] at hg
          injection hg with hg
          rcases hloc with hloc | hloc
          · left; rw [hloc, hg]
          · right; rw [size_new]; omega)
      have B4 : Hid (Below B w w4) := (BW.out.trans (BA.out.mono (by omega))).grown hgr (by rw [size_new]; omega) OL.out.from
      clear hown4 hgr hloc hg4
      go_wp2_with fail
      refine ⟨⟨k + 1, some ⟨g4, 0, none⟩, cap4, by omega, rfl, OW4.out, B4.out⟩, ?_⟩
      simp only [lenN]; omega
    · have hji : ¬ ((us.length + k : Nat) : Int) < (n : Int) := by omega
      have hk' : k = n - us.length := by omega
      go_wp2_with fail
      go_ret
      exact ⟨_, rfl, by rw [← hk']; exact OL.out, BW.out⟩
end Go.Proofs.Ytbbbfnfpmaogoaa.Own
