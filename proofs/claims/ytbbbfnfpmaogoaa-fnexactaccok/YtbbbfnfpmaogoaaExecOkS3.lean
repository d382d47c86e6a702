/-
  Own text: what spec.ExecOk does, behind its first test.
-/
import Derived.Test.YtbbbfnfpmaogoaaExecOkS2
import Derived.Deep.Cut
import Derived.Deep.CutRange
namespace Go.Proofs.Ytbbbfnfpmaogoaa.Own
open Go.RowKit
set_option linter.unusedVariables false
set_option linter.unusedSimpArgs false

set_option maxRecDepth 100000 in
set_option maxHeartbeats 4000000 in
theorem specExecOk_yes (a1 a2 : Option Addr) (c1 c2 : Nat) (xs ys : List P2) (v k : Int) (w : World) (h1 : Sl w a1 xs) (h2 : Sl w a2 ys) (hn1 : xs.length ≤ 2 ^ 40) (hn2 : ys.length ≤ 2 ^ 40) (hc1 : xs.length ≤ c1) (hc2 : ys.length ≤ c2) (he : endOk k v xs.length ys.length = true) :
    Calls Try.prog 127 #[.agg #[.slice a1 xs.length c1, .slice a2 ys.length c2, .int .i64 v, .int .i64 k]] w fun e w' => e = .returned (.bool (okAll verOk xs && okAll numOk ys)) ∧ Below w.heap.size w w' := by
  obtain ⟨n1, l1⟩ : ∃ n, xs.length = n := ⟨_, rfl⟩
  obtain ⟨n2, l2⟩ : ∃ n, ys.length = n := ⟨_, rfl⟩
  rw [l1] at hn1 hc1 he ⊢
  rw [l2] at hn2 hc2 he ⊢
  have L1 : Hid (xs.length = n1) := l1
  have L2 : Hid (ys.length = n2) := l2
  clear l1 l2
  have H1 : Hid (Sl w a1 xs) := h1
  have H2 : Hid (Sl w a2 ys) := h2
  clear h1 h2
  obtain ⟨W, hW⟩ : ∃ W, W = w.alloc (.cells #[.slice a1 n1 c1, .slice a2 n2 c2, .int .i64 v, .int .i64 k] 32) := ⟨_, rfl⟩
  have hbW : Hid (Below w.heap.size w W) := by
    show Below _ _ _
    rw [hW]; exact (Below.refl _ _).alloc (Nat.le_refl _) _
  have hsW : Hid (W.heap.size = w.heap.size + 1) := by show _ = _; rw [hW]; simp
  have g0 : Hid (W.heap[w.heap.size]? = some (.cells #[.slice a1 n1 c1, .slice a2 n2 c2, .int .i64 v, .int .i64 k] 32 (0, 0))) := by
    show _ = _
    rw [hW]; exact heap_new _ _
  have HW : Hid (W = _) := hW
  clear hW
  have HN : Hid (numOk v = true) := by
    rcases endOk_true he with ⟨_, h⟩ | ⟨_, rfl, _⟩ | ⟨_, rfl, _⟩
    · exact h
    · rfl
    · rfl
  have hcases : (¬ k < 0 ∧ ¬ 3 < k) ∧ (((k != 0) = false ∧ (k == 3) = false) ∨ ((k != 0) = true ∧ (v != 0) = false ∧ n2 = 0 ∧ (k == 3) = false) ∨ ((k != 0) = true ∧ (v != 0) = false ∧ n2 = 0 ∧ (k == 3) = true ∧ n1 = 0)) := by
    rcases endOk_true he with ⟨rfl, _⟩ | ⟨h, rfl, h2⟩ | ⟨rfl, rfl, h2, h3⟩
    · exact ⟨by omega, .inl ⟨rfl, rfl⟩⟩
    · refine ⟨by omega, .inr (.inl ⟨by simp; omega, rfl, h2, by simp; omega⟩)⟩
    · exact ⟨by omega, .inr (.inr ⟨rfl, rfl, h2, rfl, h3⟩)⟩
  clear he
  have HC : Hid ((¬ k < 0 ∧ ¬ 3 < k) ∧ (((k != 0) = false ∧ (k == 3) = false) ∨ ((k != 0) = true ∧ (v != 0) = false ∧ n2 = 0 ∧ (k == 3) = false) ∨ ((k != 0) = true ∧ (v != 0) = false ∧ n2 = 0 ∧ (k == 3) = true ∧ n1 = 0))) := hcases
  clear hcases
  go_enter Try.func127, Try.ntmps127
  go_upto_region 1 with fail
  go_cut [45] from 5 to 45 (fun c wx => c = .bool false ∧ wx = W)
  case first =>
    obtain ⟨⟨k0, k3⟩, hcases⟩ := HC.out
    rcases hcases with ⟨e0, e3⟩ | ⟨e0, ev, rfl, e3⟩ | ⟨e0, ev, rfl, e3, rfl⟩
    all_goals
      go_wp2_with fail
      refine (l1Num v _).mono ?_
      rintro e w1 ⟨rfl, rfl⟩
      rw [HN.out]
      go_wp2_with fail
      go_meet
      exact ⟨rfl, HW.out.symm⟩
  case rest =>
    obtain ⟨rfl, hwc⟩ := hcut
    have hwc' := hwc.symm
    subst hwc'
    clear HC HN hwc
    have q0 : W.cell? ⟨w.heap.size, 0, none⟩ = some (.slice a1 n1 c1) := by rw [cell_heap g0.out]; rfl
    have q1 : W.cell? ⟨w.heap.size, 1, none⟩ = some (.slice a2 n2 c2) := by rw [cell_heap g0.out]; rfl
    go_wp2_with fail
    go_loopw [3] (fun i wr => ∃ j : Nat, j ≤ n1 ∧ i = .int .i64 j ∧ Hid (∀ i, i < j → okAt verOk xs i = true) ∧ Below W.heap.size W wr) (fun i _ => n1 - (intOf i).toNat)
    case atStart => exact ⟨0, Nat.zero_le _, rfl, fun i hi => by omega, Below.refl _ _⟩
    case round =>
      obtain ⟨j, hj, rfl, hA, hB⟩ := hrel
      have HB : Hid (Below W.heap.size W wr) := hB
      have s0 : wr.cell? ⟨w.heap.size, 0, none⟩ = some (.slice a1 n1 c1) := by rw [hB.cell (p := ⟨w.heap.size, 0, none⟩) (by show w.heap.size < _; have := hsW.out; omega)]; exact q0
      have s1 : wr.cell? ⟨w.heap.size, 1, none⟩ = some (.slice a2 n2 c2) := by rw [hB.cell (p := ⟨w.heap.size, 1, none⟩) (by show w.heap.size < _; have := hsW.out; omega)]; exact q1
      clear q0 q1
      by_cases hlt : j < n1
      · rcases H1.out with h | ⟨b1, o1, rfl, h1⟩
        · have := L1.out; subst h; simp at this; omega
        have H1' : Hid (BoxAt wr b1 o1 xs) := (h1.below hbW.out).below hB
        clear h1 hB
        obtain ⟨p, hp⟩ : ∃ p, p = xs.getD j (0, 0) := ⟨_, rfl⟩
        obtain ⟨ca, cb⟩ := H1'.out.2 j (by rw [L1.out]; exact hlt)
        rw [← hp] at ca cb
        have HP : Hid (p = xs.getD j (0, 0)) := hp
        clear hp
        obtain ⟨p1, p2⟩ := p
        have HS : Hid (okAt verOk xs j = (regOk p1 && verOk p2 && !((xs.take j).any fun p => p.1 == p1))) := by show _ = _; unfold okAt; rw [← HP.out]
        have SC : Hid (∀ n, Calls Try.prog 146 #[.slice (some ⟨b1, o1, none⟩) j c1, .int .i64 p1] (wr.drewN n) fun e w' => e = .returned (.bool ((xs.take j).any fun p => p.1 == p1)) ∧ w' = wr.drewN n) := fun n =>
          l3Saw (some ⟨b1, o1, none⟩) c1 j (xs.take j) p1 _ (.inr ⟨_, _, rfl, H1'.out.pre j (by have := L1.out; omega)⟩) (by have := L1.out; simp; omega) (by omega)
        generalize ((xs.take j).any fun p => p.1 == p1) = sn at HS SC
        have hjc : j ≤ c1 := by omega
        go_upto_region 6 with fail
        go_cut [91] from 46 to 91 (fun c wx => c = .bool (!(regOk p1 && verOk p2 && !sn)) ∧ Below W.heap.size W wx)
        case first =>
          cases hr : regOk p1 with
          | false =>
            go_quiet ((first | (go_at_call 145; exact Calls.quiet_of_same (l2Box _ _)) | (go_at_call 146; exact Calls.quiet_of_same (SC.out _))))
            go_wp2
            go_meet
            exact ⟨by rw [hr]; rfl, below_drewN HB.out _⟩
          | true =>
            by_cases t1 : p2 < 0
            · have V : Hid (verOk p2 = false) := by show _ = _; simp [verOk]; omega
              go_quiet ((first | (go_at_call 145; exact Calls.quiet_of_same (l2Box _ _)) | (go_at_call 146; exact Calls.quiet_of_same (SC.out _))))
              go_wp2
              go_meet
              exact ⟨by rw [hr, V.out]; rfl, below_drewN HB.out _⟩
            · by_cases t2 : 1000000 < p2
              · have V : Hid (verOk p2 = false) := by show _ = _; simp [verOk]; omega
                have t2' : decide (1000000 < p2) = true := by simpa using t2
                go_quiet ((first | (go_at_call 145; exact Calls.quiet_of_same (l2Box _ _)) | (go_at_call 146; exact Calls.quiet_of_same (SC.out _))))
                go_wp2
                go_meet
                exact ⟨by rw [hr, V.out]; rfl, below_drewN HB.out _⟩
              · have V : Hid (verOk p2 = true) := by show _ = _; simp [verOk]; omega
                go_quiet ((first | (go_at_call 145; exact Calls.quiet_of_same (l2Box _ _)) | (go_at_call 146; exact Calls.quiet_of_same (SC.out _))))
                go_wp2
                go_meet
                exact ⟨by rw [hr, V.out]; cases sn <;> rfl, below_drewN HB.out _⟩
        case rest =>
          obtain ⟨rfl, hB2⟩ := hcut
          rw [← HS.out]
          have HB2 : Hid (Below W.heap.size W wc) := hB2
          clear hB2 HB ca cb s0 s1 HP HS SC H1'
          cases ho : okAt verOk xs j with
          | false =>
            have F' : Hid ((okAll verOk xs && okAll numOk ys) = false) := by show _ = _; rw [okAll_false (by rw [L1.out]; exact hlt) ho]; rfl
            go_wp2
            go_ret
            exact ⟨ret_bool F'.out.symm, hbW.out.trans (HB2.out.mono (by have := hsW.out; omega))⟩
          | true =>
            have N : Hid (∀ i, i < j + 1 → okAt verOk xs i = true) := by
              intro i hi
              by_cases e : i = j
              · subst e; exact ho
              · exact hA.out i (by omega)
            clear ho
            go_wp2
            go_roundw
            case rel => exact ⟨j + 1, by omega, by go_num, N, HB2.out⟩
            case measure => simp [intOf]; omega
      · have HA : Hid (okAll verOk xs = true) := by
          have h1 : j = n1 := by omega
          have h2 := hA.out
          rw [h1, ← L1.out] at h2
          exact okAll_iff.2 h2
        have E : Hid ((okAll verOk xs && okAll numOk ys) = okAll numOk ys) := by show _ = _; rw [HA.out]; rfl
        clear hA hB HA
        go_wp2_with fail
        go_loopw [4] (fun i ws => ∃ j : Nat, j ≤ n2 ∧ i = .int .i64 j ∧ Hid (∀ i, i < j → okAt numOk ys i = true) ∧ Below W.heap.size W ws) (fun i _ => n2 - (intOf i).toNat)
        case atStart => exact ⟨0, Nat.zero_le _, rfl, fun i hi => by omega, HB.out⟩
        case round =>
          clear s0 s1 HB hlt hj
          obtain ⟨m, hm, rfl, hA, hB⟩ := hrel
          have HB : Hid (Below W.heap.size W wr) := hB
          have s1 : wr.cell? ⟨w.heap.size, 1, none⟩ = some (.slice a2 n2 c2) := by rw [hB.cell (p := ⟨w.heap.size, 1, none⟩) (by show w.heap.size < _; have := hsW.out; omega), cell_heap g0.out]; rfl
          by_cases hlt : m < n2
          · rcases H2.out with h | ⟨b1, o1, rfl, h1⟩
            · have := L2.out; subst h; simp at this; omega
            have H1' : Hid (BoxAt wr b1 o1 ys) := (h1.below hbW.out).below hB
            clear h1 hB
            obtain ⟨p, hp⟩ : ∃ p, p = ys.getD m (0, 0) := ⟨_, rfl⟩
            obtain ⟨ca, cb⟩ := H1'.out.2 m (by rw [L2.out]; exact hlt)
            rw [← hp] at ca cb
            have HP : Hid (p = ys.getD m (0, 0)) := hp
            clear hp
            obtain ⟨p1, p2⟩ := p
            have HS : Hid (okAt numOk ys m = (regOk p1 && numOk p2 && !((ys.take m).any fun p => p.1 == p1))) := by show _ = _; unfold okAt; rw [← HP.out]
            have SC : Hid (∀ n, Calls Try.prog 147 #[.slice (some ⟨b1, o1, none⟩) m c2, .int .i64 p1] (wr.drewN n) fun e w' => e = .returned (.int .i64 (placeOf (ys.take m) p1)) ∧ w' = wr.drewN n) := fun n =>
              l3At (some ⟨b1, o1, none⟩) c2 m (ys.take m) p1 _ (.inr ⟨_, _, rfl, H1'.out.pre m (by have := L2.out; omega)⟩) (by have := L2.out; simp; omega) (by omega)
            have SP : Hid (decide (placeOf (ys.take m) p1 ≥ 0) = ((ys.take m).any fun p => p.1 == p1)) := placeOf_neg _ _
            generalize ((ys.take m).any fun p => p.1 == p1) = sn at HS SP
            generalize placeOf (ys.take m) p1 = pl at SC SP
            have hjc : m ≤ c2 := by omega
            go_upto_region 11 with fail
            go_cut [130] from 92 to 130 (fun c wx => c = .bool (!(regOk p1 && numOk p2 && !sn)) ∧ Below W.heap.size W wx)
            case first =>
              cases hr : regOk p1 with
              | false =>
                go_quiet ((first | (go_at_call 145; exact Calls.quiet_of_same (l2Box _ _)) | (go_at_call 144; exact Calls.quiet_of_same (l1Num _ _)) | (go_at_call 147; exact Calls.quiet_of_same (SC.out _))))
                go_wp2
                go_meet
                exact ⟨by rw [hr]; rfl, below_drewN HB.out _⟩
              | true =>
                cases hv : numOk p2 with
                | false =>
                  go_quiet ((first | (go_at_call 145; exact Calls.quiet_of_same (l2Box _ _)) | (go_at_call 144; exact Calls.quiet_of_same (l1Num _ _)) | (go_at_call 147; exact Calls.quiet_of_same (SC.out _))))
                  go_wp2
                  go_meet
                  exact ⟨by rw [hr, hv]; rfl, below_drewN HB.out _⟩
                | true =>
                  go_quiet ((first | (go_at_call 145; exact Calls.quiet_of_same (l2Box _ _)) | (go_at_call 144; exact Calls.quiet_of_same (l1Num _ _)) | (go_at_call 147; exact Calls.quiet_of_same (SC.out _))))
                  go_wp2
                  go_meet
                  exact ⟨by rw [hr, hv, ← SP.out]; simp, below_drewN HB.out _⟩
            case rest =>
              obtain ⟨rfl, hB2⟩ := hcut
              rw [← HS.out]
              have HB2 : Hid (Below W.heap.size W wc) := hB2
              clear hB2 HB ca cb s1 HP HS SC H1' SP
              cases ho : okAt numOk ys m with
              | false =>
                have F' : Hid (okAll numOk ys = false) := okAll_false (by rw [L2.out]; exact hlt) ho
                go_wp2
                go_ret
                exact ⟨ret_bool (by rw [E.out]; exact F'.out.symm), hbW.out.trans (HB2.out.mono (by have := hsW.out; omega))⟩
              | true =>
                have N : Hid (∀ i, i < m + 1 → okAt numOk ys i = true) := by
                  intro i hi
                  by_cases e : i = m
                  · subst e; exact ho
                  · exact hA.out i (by omega)
                clear ho
                go_wp2
                go_roundw
                case rel => exact ⟨m + 1, by omega, by go_num, N, HB2.out⟩
                case measure => simp [intOf]; omega
          · have HA : Hid (okAll numOk ys = true) := by
              have h1 : m = n2 := by omega
              have h2 := hA.out
              rw [h1, ← L2.out] at h2
              exact okAll_iff.2 h2
            clear hA hB
            go_wp2
            go_ret
            exact ⟨ret_bool (by rw [E.out]; exact HA.out.symm), hbW.out.trans (HB.out.mono (by have := hsW.out; omega))⟩

theorem specExecOk (a1 a2 : Option Addr) (c1 c2 : Nat) (xs ys : List P2) (v k : Int) (w : World) (h1 : Sl w a1 xs) (h2 : Sl w a2 ys) (hn1 : xs.length ≤ 2 ^ 40) (hn2 : ys.length ≤ 2 ^ 40) (hc1 : xs.length ≤ c1) (hc2 : ys.length ≤ c2) :
    Calls Try.prog 127 #[.agg #[.slice a1 xs.length c1, .slice a2 ys.length c2, .int .i64 v, .int .i64 k]] w fun e w' => e = .returned (.bool (execOk xs ys v k)) ∧ Below w.heap.size w w' := by
  unfold execOk
  cases he : endOk k v xs.length ys.length with
  | false => exact specExecOk_no a1 a2 _ c1 _ c2 v k w he
  | true =>
    refine (specExecOk_yes a1 a2 c1 c2 xs ys v k w h1 h2 hn1 hn2 hc1 hc2 he).mono ?_
    rintro e w' ⟨rfl, hb⟩
    exact ⟨by simp, hb⟩
end Go.Proofs.Ytbbbfnfpmaogoaa.Own
