/-
  Own texts, bundled: ExecOkS3, EntOkS, NumMath, NumRead, EntRight, EntInj.
-/
import Derived.Test.YtokbakphfodabaaDoorPk11
import Derived.Deep.Cut
import Derived.Deep.CutRange
import Derived.Test.YtokbakphfodabaaDoorPk1
import Derived.Lib.AtoiAll
import Derived.Lib.IndexMore
import Derived.Test.YtokbakphfodabaaDoorPk2
import Derived.Test.YtokbakphfodabaaDoorPk5
import Derived.Test.YtokbakphfodabaaDoorPk9
namespace Go.Proofs.YtokbakphfodabaaDoor.Own
open Go.RowKit
set_option linter.unusedVariables false
set_option linter.unusedSimpArgs false

set_option maxRecDepth 100000 in
set_option maxHeartbeats 4000000 in
theorem specExecOk_yes (a1 a2 : Option Addr) (c1 c2 : Nat) (xs ys : List P2) (v k : Int) (w : World) (h1 : Sl w a1 xs) (h2 : Sl w a2 ys) (hn1 : xs.length ≤ 2 ^ 40) (hn2 : ys.length ≤ 2 ^ 40) (hc1 : xs.length ≤ c1) (hc2 : ys.length ≤ c2) (he : endOk k v xs.length ys.length = true) :
    Calls Tryd.prog 48 #[.agg #[.slice a1 xs.length c1, .slice a2 ys.length c2, .int .i64 v, .int .i64 k]] w fun e w' => e = .returned (.bool (okAll verOk xs && okAll numOk ys)) ∧ Below w.heap.size w w' := by
  obtain ⟨n1, l1⟩ : ∃ n, xs.length = n := ⟨_, rfl⟩
  obtain ⟨n2, l2⟩ : ∃ n, ys.length = n := ⟨_, rfl⟩
  rw [l1] at hn1 hc1 he ⊢
  rw [l2] at hn2 hc2 he ⊢
  have L1 : Hid (xs.length = n1) := l1
  have L2 : Hid (ys.length = n2) := l2
  clear l1 l2
  have H1 : Hid (Sl w a1 xs) := h1
  have H2 : Hid (Sl w a2 ys) := h2
  clear h1 h2
  obtain ⟨W, hW⟩ : ∃ W, W = w.alloc (.cells #[.slice a1 n1 c1, .slice a2 n2 c2, .int .i64 v, .int .i64 k] 32) := ⟨_, rfl⟩
  have hbW : Hid (Below w.heap.size w W) := by
    show Below _ _ _
    rw [hW]; exact (Below.refl _ _).alloc (Nat.le_refl _) _
  have hsW : Hid (W.heap.size = w.heap.size + 1) := by show _ = _; rw [hW]; simp
  have g0 : Hid (W.heap[w.heap.size]? = some (.cells #[.slice a1 n1 c1, .slice a2 n2 c2, .int .i64 v, .int .i64 k] 32 (0, 0))) := by
    show _ = _
    rw [hW]; exact heap_new _ _
  have HW : Hid (W = _) := hW
  clear hW
  have HN : Hid (numOk v = true) := by
    rcases endOk_true he with ⟨_, h⟩ | ⟨_, rfl, _⟩ | ⟨_, rfl, _⟩
    · exact h
    · rfl
    · rfl
  have hcases : (¬ k < 0 ∧ ¬ 3 < k) ∧ (((k != 0) = false ∧ (k == 3) = false) ∨ ((k != 0) = true ∧ (v != 0) = false ∧ n2 = 0 ∧ (k == 3) = false) ∨ ((k != 0) = true ∧ (v != 0) = false ∧ n2 = 0 ∧ (k == 3) = true ∧ n1 = 0)) := by
    rcases endOk_true he with ⟨rfl, _⟩ | ⟨h, rfl, h2⟩ | ⟨rfl, rfl, h2, h3⟩
    · exact ⟨by omega, .inl ⟨rfl, rfl⟩⟩
    · refine ⟨by omega, .inr (.inl ⟨by simp; omega, rfl, h2, by simp; omega⟩)⟩
    · exact ⟨by omega, .inr (.inr ⟨rfl, rfl, h2, rfl, h3⟩)⟩
  clear he
  have HC : Hid ((¬ k < 0 ∧ ¬ 3 < k) ∧ (((k != 0) = false ∧ (k == 3) = false) ∨ ((k != 0) = true ∧ (v != 0) = false ∧ n2 = 0 ∧ (k == 3) = false) ∨ ((k != 0) = true ∧ (v != 0) = false ∧ n2 = 0 ∧ (k == 3) = true ∧ n1 = 0))) := hcases
  clear hcases
  go_enter Tryd.func48, Tryd.ntmps48
  go_upto_region 1 with fail
  go_cut [45] from 5 to 45 (fun c wx => c = .bool false ∧ wx = W)
  case first =>
    obtain ⟨⟨k0, k3⟩, hcases⟩ := HC.out
    rcases hcases with ⟨e0, e3⟩ | ⟨e0, ev, rfl, e3⟩ | ⟨e0, ev, rfl, e3, rfl⟩
    all_goals
      go_wp2_with fail
      refine (l1Num v _).mono ?_
      rintro e w1 ⟨rfl, rfl⟩
      rw [HN.out]
      go_wp2_with fail
      go_meet
      exact ⟨rfl, HW.out.symm⟩
  case rest =>
    obtain ⟨rfl, hwc⟩ := hcut
    have hwc' := hwc.symm
    subst hwc'
    clear HC HN hwc
    have q0 : W.cell? ⟨w.heap.size, 0, none⟩ = some (.slice a1 n1 c1) := by rw [cell_heap g0.out]; rfl
    have q1 : W.cell? ⟨w.heap.size, 1, none⟩ = some (.slice a2 n2 c2) := by rw [cell_heap g0.out]; rfl
    go_wp2_with fail
    go_loopw [3] (fun i wr => ∃ j : Nat, j ≤ n1 ∧ i = .int .i64 j ∧ Hid (∀ i, i < j → okAt verOk xs i = true) ∧ Below W.heap.size W wr) (fun i _ => n1 - (intOf i).toNat)
    case atStart => exact ⟨0, Nat.zero_le _, rfl, fun i hi => by omega, Below.refl _ _⟩
    case round =>
      obtain ⟨j, hj, rfl, hA, hB⟩ := hrel
      have HB : Hid (Below W.heap.size W wr) := hB
      have s0 : wr.cell? ⟨w.heap.size, 0, none⟩ = some (.slice a1 n1 c1) := by rw [hB.cell (p := ⟨w.heap.size, 0, none⟩) (by show w.heap.size < _; have := hsW.out; omega)]; exact q0
      have s1 : wr.cell? ⟨w.heap.size, 1, none⟩ = some (.slice a2 n2 c2) := by rw [hB.cell (p := ⟨w.heap.size, 1, none⟩) (by show w.heap.size < _; have := hsW.out; omega)]; exact q1
      clear q0 q1
      by_cases hlt : j < n1
      · rcases H1.out with h | ⟨b1, o1, rfl, h1⟩
        · have := L1.out; subst h; simp at this; omega
        have H1' : Hid (BoxAt wr b1 o1 xs) := (h1.below hbW.out).below hB
        clear h1 hB
        obtain ⟨p, hp⟩ : ∃ p, p = xs.getD j (0, 0) := ⟨_, rfl⟩
        obtain ⟨ca, cb⟩ := H1'.out.2 j (by rw [L1.out]; exact hlt)
        rw [← hp] at ca cb
        have HP : Hid (p = xs.getD j (0, 0)) := hp
        clear hp
        obtain ⟨p1, p2⟩ := p
        have HS : Hid (okAt verOk xs j = (regOk p1 && verOk p2 && !((xs.take j).any fun p => p.1 == p1))) := by show _ = _; unfold okAt; rw [← HP.out]
        have SC : Hid (∀ n, Calls Tryd.prog 75 #[.slice (some ⟨b1, o1, none⟩) j c1, .int .i64 p1] (wr.drewN n) fun e w' => e = .returned (.bool ((xs.take j).any fun p => p.1 == p1)) ∧ w' = wr.drewN n) := fun n =>
          l3Saw (some ⟨b1, o1, none⟩) c1 j (xs.take j) p1 _ (.inr ⟨_, _, rfl, H1'.out.pre j (by have := L1.out; omega)⟩) (by have := L1.out; simp; omega) (by omega)
        generalize ((xs.take j).any fun p => p.1 == p1) = sn at HS SC
        have hjc : j ≤ c1 := by omega
        go_upto_region 6 with fail
        go_cut [91] from 46 to 91 (fun c wx => c = .bool (!(regOk p1 && verOk p2 && !sn)) ∧ Below W.heap.size W wx)
        case first =>
          cases hr : regOk p1 with
          | false =>
            go_quiet ((first | (go_at_call 74; exact Calls.quiet_of_same (l2Box _ _)) | (go_at_call 75; exact Calls.quiet_of_same (SC.out _))))
            go_wp2
            go_meet
            exact ⟨by rw [hr]; rfl, below_drewN HB.out _⟩
          | true =>
            by_cases t1 : p2 < 0
            · have V : Hid (verOk p2 = false) := by show _ = _; simp [verOk]; omega
              go_quiet ((first | (go_at_call 74; exact Calls.quiet_of_same (l2Box _ _)) | (go_at_call 75; exact Calls.quiet_of_same (SC.out _))))
              go_wp2
              go_meet
              exact ⟨by rw [hr, V.out]; rfl, below_drewN HB.out _⟩
            · by_cases t2 : 1000000 < p2
              · have V : Hid (verOk p2 = false) := by show _ = _; simp [verOk]; omega
                have t2' : decide (1000000 < p2) = true := by simpa using t2
                go_quiet ((first | (go_at_call 74; exact Calls.quiet_of_same (l2Box _ _)) | (go_at_call 75; exact Calls.quiet_of_same (SC.out _))))
                go_wp2
                go_meet
                exact ⟨by rw [hr, V.out]; rfl, below_drewN HB.out _⟩
              · have V : Hid (verOk p2 = true) := by show _ = _; simp [verOk]; omega
                go_quiet ((first | (go_at_call 74; exact Calls.quiet_of_same (l2Box _ _)) | (go_at_call 75; exact Calls.quiet_of_same (SC.out _))))
                go_wp2
                go_meet
                exact ⟨by rw [hr, V.out]; cases sn <;> rfl, below_drewN HB.out _⟩
        case rest =>
          obtain ⟨rfl, hB2⟩ := hcut
          rw [← HS.out]
          have HB2 : Hid (Below W.heap.size W wc) := hB2
          clear hB2 HB ca cb s0 s1 HP HS SC H1'
          cases ho : okAt verOk xs j with
          | false =>
            have F' : Hid ((okAll verOk xs && okAll numOk ys) = false) := by show _ = _; rw [okAll_false (by rw [L1.out]; exact hlt) ho]; rfl
            go_wp2
            go_ret
            exact ⟨ret_bool F'.out.symm, hbW.out.trans (HB2.out.mono (by have := hsW.out; omega))⟩
          | true =>
            have N : Hid (∀ i, i < j + 1 → okAt verOk xs i = true) := by
              intro i hi
              by_cases e : i = j
              · subst e; exact ho
              · exact hA.out i (by omega)
            clear ho
            go_wp2
            go_roundw
            case rel => exact ⟨j + 1, by omega, by go_num, N, HB2.out⟩
            case measure => simp [intOf]; omega
      · have HA : Hid (okAll verOk xs = true) := by
          have h1 : j = n1 := by omega
          have h2 := hA.out
          rw [h1, ← L1.out] at h2
          exact okAll_iff.2 h2
        have E : Hid ((okAll verOk xs && okAll numOk ys) = okAll numOk ys) := by show _ = _; rw [HA.out]; rfl
        clear hA hB HA
        go_wp2_with fail
        go_loopw [4] (fun i ws => ∃ j : Nat, j ≤ n2 ∧ i = .int .i64 j ∧ Hid (∀ i, i < j → okAt numOk ys i = true) ∧ Below W.heap.size W ws) (fun i _ => n2 - (intOf i).toNat)
        case atStart => exact ⟨0, Nat.zero_le _, rfl, fun i hi => by omega, HB.out⟩
        case round =>
          clear s0 s1 HB hlt hj
          obtain ⟨m, hm, rfl, hA, hB⟩ := hrel
          have HB : Hid (Below W.heap.size W wr) := hB
          have s1 : wr.cell? ⟨w.heap.size, 1, none⟩ = some (.slice a2 n2 c2) := by rw [hB.cell (p := ⟨w.heap.size, 1, none⟩) (by show w.heap.size < _; have := hsW.out; omega), cell_heap g0.out]; rfl
          by_cases hlt : m < n2
          · rcases H2.out with h | ⟨b1, o1, rfl, h1⟩
            · have := L2.out; subst h; simp at this; omega
            have H1' : Hid (BoxAt wr b1 o1 ys) := (h1.below hbW.out).below hB
            clear h1 hB
            obtain ⟨p, hp⟩ : ∃ p, p = ys.getD m (0, 0) := ⟨_, rfl⟩
            obtain ⟨ca, cb⟩ := H1'.out.2 m (by rw [L2.out]; exact hlt)
            rw [← hp] at ca cb
            have HP : Hid (p = ys.getD m (0, 0)) := hp
            clear hp
            obtain ⟨p1, p2⟩ := p
            have HS : Hid (okAt numOk ys m = (regOk p1 && numOk p2 && !((ys.take m).any fun p => p.1 == p1))) := by show _ = _; unfold okAt; rw [← HP.out]
            have SC : Hid (∀ n, Calls Tryd.prog 76 #[.slice (some ⟨b1, o1, none⟩) m c2, .int .i64 p1] (wr.drewN n) fun e w' => e = .returned (.int .i64 (placeOf (ys.take m) p1)) ∧ w' = wr.drewN n) := fun n =>
              l3At (some ⟨b1, o1, none⟩) c2 m (ys.take m) p1 _ (.inr ⟨_, _, rfl, H1'.out.pre m (by have := L2.out; omega)⟩) (by have := L2.out; simp; omega) (by omega)
            have SP : Hid (decide (placeOf (ys.take m) p1 ≥ 0) = ((ys.take m).any fun p => p.1 == p1)) := placeOf_neg _ _
            generalize ((ys.take m).any fun p => p.1 == p1) = sn at HS SP
            generalize placeOf (ys.take m) p1 = pl at SC SP
            have hjc : m ≤ c2 := by omega
            go_upto_region 11 with fail
            go_cut [130] from 92 to 130 (fun c wx => c = .bool (!(regOk p1 && numOk p2 && !sn)) ∧ Below W.heap.size W wx)
            case first =>
              cases hr : regOk p1 with
              | false =>
                go_quiet ((first | (go_at_call 74; exact Calls.quiet_of_same (l2Box _ _)) | (go_at_call 45; exact Calls.quiet_of_same (l1Num _ _)) | (go_at_call 76; exact Calls.quiet_of_same (SC.out _))))
                go_wp2
                go_meet
                exact ⟨by rw [hr]; rfl, below_drewN HB.out _⟩
              | true =>
                cases hv : numOk p2 with
                | false =>
                  go_quiet ((first | (go_at_call 74; exact Calls.quiet_of_same (l2Box _ _)) | (go_at_call 45; exact Calls.quiet_of_same (l1Num _ _)) | (go_at_call 76; exact Calls.quiet_of_same (SC.out _))))
                  go_wp2
                  go_meet
                  exact ⟨by rw [hr, hv]; rfl, below_drewN HB.out _⟩
                | true =>
                  go_quiet ((first | (go_at_call 74; exact Calls.quiet_of_same (l2Box _ _)) | (go_at_call 45; exact Calls.quiet_of_same (l1Num _ _)) | (go_at_call 76; exact Calls.quiet_of_same (SC.out _))))
                  go_wp2
                  go_meet
                  exact ⟨by rw [hr, hv, ← SP.out]; simp, below_drewN HB.out _⟩
            case rest =>
              obtain ⟨rfl, hB2⟩ := hcut
              rw [← HS.out]
              have HB2 : Hid (Below W.heap.size W wc) := hB2
              clear hB2 HB ca cb s1 HP HS SC H1' SP
              cases ho : okAt numOk ys m with
              | false =>
                have F' : Hid (okAll numOk ys = false) := okAll_false (by rw [L2.out]; exact hlt) ho
                go_wp2
                go_ret
                exact ⟨ret_bool (by rw [E.out]; exact F'.out.symm), hbW.out.trans (HB2.out.mono (by have := hsW.out; omega))⟩
              | true =>
                have N : Hid (∀ i, i < m + 1 → okAt numOk ys i = true) := by
                  intro i hi
                  by_cases e : i = m
                  · subst e; exact ho
                  · exact hA.out i (by omega)
                clear ho
                go_wp2
                go_roundw
                case rel => exact ⟨m + 1, by omega, by go_num, N, HB2.out⟩
                case measure => simp [intOf]; omega
          · have HA : Hid (okAll numOk ys = true) := by
              have h1 : m = n2 := by omega
              have h2 := hA.out
              rw [h1, ← L2.out] at h2
              exact okAll_iff.2 h2
            clear hA hB
            go_wp2
            go_ret
            exact ⟨ret_bool (by rw [E.out]; exact HA.out.symm), hbW.out.trans (HB.out.mono (by have := hsW.out; omega))⟩

theorem specExecOk (a1 a2 : Option Addr) (c1 c2 : Nat) (xs ys : List P2) (v k : Int) (w : World) (h1 : Sl w a1 xs) (h2 : Sl w a2 ys) (hn1 : xs.length ≤ 2 ^ 40) (hn2 : ys.length ≤ 2 ^ 40) (hc1 : xs.length ≤ c1) (hc2 : ys.length ≤ c2) :
    Calls Tryd.prog 48 #[.agg #[.slice a1 xs.length c1, .slice a2 ys.length c2, .int .i64 v, .int .i64 k]] w fun e w' => e = .returned (.bool (execOk xs ys v k)) ∧ Below w.heap.size w w' := by
  unfold execOk
  cases he : endOk k v xs.length ys.length with
  | false => exact specExecOk_no a1 a2 _ c1 _ c2 v k w he
  | true =>
    refine (specExecOk_yes a1 a2 c1 c2 xs ys v k w h1 h2 hn1 hn2 hc1 hc2 he).mono ?_
    rintro e w' ⟨rfl, hb⟩
    exact ⟨by simp, hb⟩
end Go.Proofs.YtokbakphfodabaaDoor.Own

namespace Go.Proofs.YtokbakphfodabaaDoor.Own
open Go.RowKit
set_option linter.unusedVariables false
set_option linter.unusedSimpArgs false

theorem specReqOk (p q : Int) (w : World) : Calls Tryd.prog 44 #[.agg #[.int .i64 p, .int .i64 q]] w fun e w' => e = .returned (.bool (reqOk p q)) ∧ Below w.heap.size w w' := by
  have R : Hid (reqOk p q = (decide (0 ≤ p) && decide (p < 3) && decide (1 ≤ q) && decide (q ≤ 1000))) := rfl
  have B0 : ∀ o, Hid (Below w.heap.size w (w.alloc o)) := fun o => (Below.refl _ _).alloc (Nat.le_refl _) _
  cases h1 : decide (0 ≤ p) with
  | false =>
    go_enter Tryd.func44, Tryd.ntmps44
    go_wp2
    go_ret
    exact ⟨ret_bool (by rw [R.out, h1]; rfl), (B0 _).out⟩
  | true =>
    cases h2 : decide (p < 3) with
    | false =>
      go_enter Tryd.func44, Tryd.ntmps44
      go_wp2
      go_ret
      exact ⟨ret_bool (by rw [R.out, h1, h2]; rfl), (B0 _).out⟩
    | true =>
      cases h3 : decide (1 ≤ q) with
      | false =>
        go_enter Tryd.func44, Tryd.ntmps44
        go_wp2
        go_ret
        exact ⟨ret_bool (by rw [R.out, h1, h2, h3]; rfl), (B0 _).out⟩
      | true =>
        go_enter Tryd.func44, Tryd.ntmps44
        go_wp2
        go_ret
        exact ⟨ret_bool (by rw [R.out, h1, h2, h3]; rfl), (B0 _).out⟩

set_option maxRecDepth 100000 in
set_option maxHeartbeats 1000000 in
theorem specCertEntryRun (p q : Int) (a1 a2 : Option Addr) (c1 c2 : Nat) (xs ys : List P2) (v k : Int) (w : World) (h1 : Sl w a1 xs) (h2 : Sl w a2 ys) (n1 : xs.length ≤ 2 ^ 40) (n2 : ys.length ≤ 2 ^ 40) (hc1 : xs.length ≤ c1) (hc2 : ys.length ≤ c2) :
    Calls Tryd.prog 15 #[.agg #[.bool false, .int .i64 p, .int .i64 q, .slice a1 xs.length c1, .slice a2 ys.length c2, .int .i64 v, .int .i64 k]] w fun e w' => e = .returned (.bool (reqOk p q && execOk xs ys v k && k != 3)) ∧ Below w.heap.size w w' := by
  have H1 : Hid (Sl w a1 xs) := h1
  have H2 : Hid (Sl w a2 ys) := h2
  clear h1 h2
  obtain ⟨W, hW⟩ : ∃ W, W = w.alloc (.cells #[.bool false, .int .i64 p, .int .i64 q, .slice a1 xs.length c1, .slice a2 ys.length c2, .int .i64 v, .int .i64 k] 34) := ⟨_, rfl⟩
  have BW : Hid (Below w.heap.size w W) := by show Below _ _ _; rw [hW]; exact (Below.refl _ _).alloc (Nat.le_refl _) _
  have G0 : Hid (Blk W w.heap.size #[.bool false, .int .i64 p, .int .i64 q, .slice a1 xs.length c1, .slice a2 ys.length c2, .int .i64 v, .int .i64 k] 34) := by show Blk _ _ _ _; rw [hW]; exact Blk.new _ _ _
  have HW : Hid (W = _) := hW
  clear hW
  obtain ⟨T, hT⟩ : ∃ T, T = (reqOk p q && execOk xs ys v k && k != 3) := ⟨_, rfl⟩
  have HT : Hid (T = (reqOk p q && execOk xs ys v k && k != 3)) := hT
  rw [← hT]
  clear hT
  go_enter Tryd.func15, Tryd.ntmps15
  go_wp2_with fail
  rw [← HW.out]
  refine (specReqOk p q W).mono ?_
  rintro e w1 ⟨rfl, b1⟩
  have B1 : Hid (Below w.heap.size w w1) := BW.out.trans (b1.mono BW.out.size)
  have D0 : Hid (Blk w1 w.heap.size _ _) := G0.out.keep b1
  obtain ⟨q0, q1, q2, q3, q4, q5, q6⟩ := D0.out.cells7
  clear b1
  generalize reqOk p q = r1 at HT ⊢
  cases r1 with
  | false =>
    have F : Hid (T = false) := by show _ = _; rw [HT.out]; rfl
    go_wp2_with fail
    go_ret
    exact ⟨ret_bool F.out.symm, B1.out⟩
  | true =>
    go_wp2_with fail
    refine (specExecOk a1 a2 c1 c2 xs ys v k w1 (H1.out.below B1.out) (H2.out.below B1.out) n1 n2 hc1 hc2).mono ?_
    rintro e w2 ⟨rfl, b2⟩
    have B2 : Hid (Below w.heap.size w w2) := B1.out.trans (b2.mono B1.out.size)
    obtain ⟨r0, r1, r2, r3, r4, r5, r6⟩ := (D0.out.keep b2).cells7
    clear b2 q0 q1 q2 q3 q4 q5 q6
    generalize execOk xs ys v k = r2' at HT ⊢
    cases r2' with
    | false =>
      have F : Hid (T = false) := by show _ = _; rw [HT.out]; rfl
      go_wp2_with fail
      go_ret
      exact ⟨ret_bool F.out.symm, B2.out⟩
    | true =>
      have F : Hid (T = (k != 3)) := by show _ = _; rw [HT.out]; rfl
      go_wp2_with fail
      go_ret
      exact ⟨ret_bool F.out.symm, B2.out⟩

set_option maxRecDepth 100000 in
set_option maxHeartbeats 1000000 in
theorem specCertEntryNone (p q : Int) (a1 a2 : Option Addr) (c1 c2 : Nat) (xs ys : List P2) (v k : Int) (w : World) (h1 : Sl w a1 xs) (h2 : Sl w a2 ys) (n1 : xs.length ≤ 2 ^ 40) (n2 : ys.length ≤ 2 ^ 40) :
    Calls Tryd.prog 15 #[.agg #[.bool true, .int .i64 p, .int .i64 q, .slice a1 xs.length c1, .slice a2 ys.length c2, .int .i64 v, .int .i64 k]] w fun e w' => e = .returned (.bool (likeE true true (p, q) (0, 0) xs ys [] [] v k 0 0)) ∧ Below w.heap.size w w' := by
  have H1 : Hid (Sl w a1 xs) := h1
  have H2 : Hid (Sl w a2 ys) := h2
  clear h1 h2
  obtain ⟨W, hW⟩ : ∃ W, W = w.alloc (.cells #[.bool true, .int .i64 p, .int .i64 q, .slice a1 xs.length c1, .slice a2 ys.length c2, .int .i64 v, .int .i64 k] 34) := ⟨_, rfl⟩
  have BW : Hid (Below w.heap.size w W) := by show Below _ _ _; rw [hW]; exact (Below.refl _ _).alloc (Nat.le_refl _) _
  have HW : Hid (W = _) := hW
  clear hW
  have hq := fun w => eqlReq p q 0 0 w
  cases he : eq2 (p, q) (0, 0) with
  | false =>
    have F : Hid (likeE true true (p, q) (0, 0) xs ys [] [] v k 0 0 = false) := likeE_req _ _ _ _ _ _ _ _ he
    rw [he] at hq
    go_enter Tryd.func15, Tryd.ntmps15
    go_wp2_with fail
    go_ret
    exact ⟨ret_bool F.out.symm, by rw [← HW.out]; exact BW.out⟩
  | true =>
    have F : Hid (likeE true true (p, q) (0, 0) xs ys [] [] v k 0 0 = sameRun xs ys [] [] v k 0 0) := likeE_run _ _ _ _ _ _ _ _ rfl he
    rw [he] at hq
    go_enter Tryd.func15, Tryd.ntmps15
    go_wp2_with fail
    rw [← HW.out]
    refine (specExecSame a1 a2 none none c1 c2 0 0 xs ys [] [] v k 0 0 W (H1.out.below BW.out) (H2.out.below BW.out) (.inl rfl) (.inl rfl) n1 n2 (by simp) (by simp)).mono ?_
    rintro e w1 ⟨rfl, b1'⟩
    have B1 : Hid (Below w.heap.size w w1) := BW.out.trans (b1'.mono BW.out.size)
    clear b1'
    generalize sameRun xs ys [] [] v k 0 0 = r at F ⊢
    go_wp2_with fail
    go_ret
    exact ⟨ret_bool F.out.symm, B1.out⟩

theorem specCertEntry (n : Bool) (p q : Int) (a1 a2 : Option Addr) (c1 c2 : Nat) (xs ys : List P2) (v k : Int) (w : World) (h1 : Sl w a1 xs) (h2 : Sl w a2 ys) (n1 : xs.length ≤ 2 ^ 40) (n2 : ys.length ≤ 2 ^ 40) (hc1 : xs.length ≤ c1) (hc2 : ys.length ≤ c2) :
    Calls Tryd.prog 15 #[.agg #[.bool n, .int .i64 p, .int .i64 q, .slice a1 xs.length c1, .slice a2 ys.length c2, .int .i64 v, .int .i64 k]] w fun e w' => e = .returned (.bool (entOk n p q xs ys v k)) ∧ Below w.heap.size w w' := by
  cases n with
  | false => exact specCertEntryRun p q a1 a2 c1 c2 xs ys v k w h1 h2 n1 n2 hc1 hc2
  | true => exact specCertEntryNone p q a1 a2 c1 c2 xs ys v k w h1 h2 n1 n2
end Go.Proofs.YtokbakphfodabaaDoor.Own

namespace Go.Proofs.YtokbakphfodabaaDoor.Own

theorem dec_digit (u : Nat) : ∀ c ∈ Lib.decDigits u, 48 ≤ c.toNat ∧ c.toNat ≤ 57 := by
  induction u using Nat.strongRecOn with
  | ind u ih =>
    intro c hc
    rw [Lib.decDigits] at hc
    split at hc
    · simp only [List.mem_singleton] at hc
      subst hc
      rw [UInt8.toNat_ofNat']; omega
    · rw [List.mem_append] at hc
      rcases hc with hc | hc
      · exact ih (u / 10) (by omega) c hc
      · simp only [List.mem_singleton] at hc
        subst hc
        rw [UInt8.toNat_ofNat']; omega

/-- What digits spell. -/
def decVal (l : List UInt8) : Nat := l.foldl (fun a c => a * 10 + (c.toNat - 48)) 0

theorem decVal_dec (u : Nat) : decVal (Lib.decDigits u) = u := by
  induction u using Nat.strongRecOn with
  | ind u ih =>
    rw [Lib.decDigits]
    split
    · rename_i h
      simp only [decVal, List.foldl_cons, List.foldl_nil]
      rw [UInt8.toNat_ofNat']; omega
    · rename_i h
      have := ih (u / 10) (by omega)
      simp only [decVal] at this ⊢
      rw [List.foldl_append, this]
      simp only [List.foldl_cons, List.foldl_nil]
      rw [UInt8.toNat_ofNat']; omega

theorem dec_inj {a b : Nat} (h : Lib.decDigits a = Lib.decDigits b) : a = b := by
  rw [← decVal_dec a, h, decVal_dec]

theorem dec_ne_nil (u : Nat) : Lib.decDigits u ≠ [] := by
  rw [Lib.decDigits]; split <;> simp

theorem dec_no_minus (u : Nat) (l : List UInt8) : Lib.decDigits u ≠ 45 :: l := by
  intro h
  have := dec_digit u 45 (by rw [h]; simp)
  simp at this

theorem itoa_inj {a b : Int} (h : Lib.itoa a = Lib.itoa b) : a = b := by
  by_cases ha : a < 0
  · by_cases hb : b < 0
    · rw [itoa_neg' a ha, itoa_neg' b hb] at h
      have := dec_inj (List.cons.inj h).2
      omega
    · rw [itoa_neg' a ha, itoa_pos' b hb] at h
      exact absurd h.symm (dec_no_minus _ _)
  · by_cases hb : b < 0
    · rw [itoa_pos' a ha, itoa_neg' b hb] at h
      exact absurd h (dec_no_minus _ _)
    · rw [itoa_pos' a ha, itoa_pos' b hb] at h
      have := dec_inj h
      omega

theorem itoa_sign (n : Int) : ∀ c ∈ Lib.itoa n, c.toNat = 45 ∨ (48 ≤ c.toNat ∧ c.toNat ≤ 57) := by
  intro c hc
  by_cases h : n < 0
  · rw [itoa_neg' n h] at hc
    rcases List.mem_cons.1 hc with rfl | hc
    · exact .inl rfl
    · exact .inr (dec_digit _ c hc)
  · rw [itoa_pos' n h] at hc
    exact .inr (dec_digit _ c hc)

theorem itoa_no (n : Int) : (47 : UInt8) ∉ Lib.itoa n ∧ (32 : UInt8) ∉ Lib.itoa n := by
  refine ⟨fun h => ?_, fun h => ?_⟩
  · have := itoa_sign n 47 h; simp at this
  · have := itoa_sign n 32 h; simp at this

/-- Two texts that are cut at the same sign. -/
theorem cut_first {c : UInt8} : ∀ {A A' B B' : List UInt8}, c ∉ A → c ∉ A' → A ++ c :: B = A' ++ c :: B' → A = A' ∧ B = B'
  | [], [], B, B', _, _, h => ⟨rfl, by simpa using h⟩
  | [], x :: A', B, B', _, h2, h => by
    simp at h
    exact absurd (by simp [h.1]) h2
  | x :: A, [], B, B', h1, _, h => by
    simp at h
    exact absurd (by simp [h.1]) h1
  | x :: A, y :: A', B, B', h1, h2, h => by
    simp at h
    obtain ⟨e1, e2⟩ := cut_first (A := A) (A' := A') (fun m => h1 (by simp [m])) (fun m => h2 (by simp [m])) h.2
    exact ⟨by rw [h.1, e1], e2⟩

theorem str_inj {a b : List UInt8} (h : str a = str b) : a = b := by
  rw [← str_list a, h, str_list]

end Go.Proofs.YtokbakphfodabaaDoor.Own

namespace Go.Proofs.YtokbakphfodabaaDoor.Own
set_option linter.unusedVariables false
set_option linter.unusedSimpArgs false

def digStep (a : Nat) (c : UInt8) : Nat := a * 10 + (c.toNat - 48)
theorem dig_ge (l : List UInt8) : ∀ a, a ≤ l.foldl digStep a := by
  induction l with
  | nil => intro a; exact Nat.le_refl _
  | cons c r ih => intro a; have := ih (digStep a c); simp only [List.foldl_cons]; unfold digStep at *; omega

theorem parse_fold (l : List UInt8) : ∀ a, (∀ c ∈ l, 48 ≤ c.toNat ∧ c.toNat ≤ 57) → l.foldl digStep a < 18446744073709551616 → Lib.parseUint10 a l = .ok (l.foldl digStep a) := by
  induction l with
  | nil => intro a _ _; rfl
  | cons c r ih =>
    intro a hd hl
    have h1 := hd c (by simp)
    simp only [List.foldl_cons] at hl ⊢
    have h2 := dig_ge r (digStep a c)
    have h3 : digStep a c < 18446744073709551616 := by omega
    have h4 : digStep a c = a * 10 + (c.toNat - 48) := rfl
    simp only [Lib.parseUint10]
    rw [if_pos h1, if_neg (by omega), if_neg (by omega), ← h4]
    exact ih _ (fun d m => hd d (by simp [m])) hl

theorem dec_fold (u : Nat) : (Lib.decDigits u).foldl digStep 0 = u := decVal_dec u

theorem parseMag_dec (u : Nat) (h : u < 18446744073709551616) : Lib.parseMag (Lib.decDigits u) = .ok u := by
  unfold Lib.parseMag
  rw [if_neg (dec_ne_nil u), parse_fold _ _ (dec_digit u) (by rw [dec_fold]; exact h), dec_fold]

theorem atoi_itoa (n : Int) (h : Fits n) : Lib.atoiAll (Lib.itoa n) = .ok n := by
  obtain ⟨h1, h2⟩ := h
  by_cases hn : n < 0
  · rw [itoa_neg' n hn]
    simp only [Lib.atoiAll]
    have e : ((45 : UInt8).toNat = 43 ∨ (45 : UInt8).toNat = 45) := .inr rfl
    rw [if_pos e, parseMag_dec _ (by omega)]
    have e2 : (45 : UInt8).toNat = 45 := rfl
    simp only [e2, not_true_eq_false, false_and, if_false, true_and]
    rw [if_neg (by omega)]
    simp only [if_true]
    congr 1
    omega
  · rw [itoa_pos' n hn]
    cases hl : Lib.decDigits n.toNat with
    | nil => exact absurd hl (dec_ne_nil _)
    | cons c r =>
      have hd := dec_digit n.toNat c (by rw [hl]; simp)
      have hp := parseMag_dec n.toNat (by omega)
      rw [hl] at hp
      simp only [Lib.atoiAll]
      rw [if_neg (by omega), hp]
      have e3 : ¬ c.toNat = 45 := by omega
      simp only [e3, not_false_eq_true, true_and, false_and, if_false]
      rw [if_neg (by omega)]
      congr 1
      omega

/-- Digits, none of them needless. -/
def Canon (l : List UInt8) : Prop := l ≠ [] ∧ (∀ c ∈ l, 48 ≤ c.toNat ∧ c.toNat ≤ 57) ∧ (l.head? = some 48 → l.length = 1)

theorem byte_ext {a b : UInt8} (h : a.toNat = b.toNat) : a = b := UInt8.toNat_inj.1 h
theorem byte_of (c : UInt8) (h : 48 ≤ c.toNat ∧ c.toNat ≤ 57) : UInt8.ofNat (48 + (c.toNat - 48)) = c := by
  apply byte_ext
  rw [UInt8.toNat_ofNat']; omega

theorem fold_pos (l : List UInt8) (h : Canon l) (h0 : l.head? ≠ some 48) : 1 ≤ l.foldl digStep 0 := by
  obtain ⟨h1, h2, h3⟩ := h
  cases l with
  | nil => exact absurd rfl h1
  | cons c r =>
    have hc := h2 c (by simp)
    have : c.toNat ≠ 48 := fun e => h0 (by simp; exact byte_ext e)
    have := dig_ge r (digStep 0 c)
    simp only [List.foldl_cons]
    unfold digStep at *
    omega

theorem canon_dec : ∀ (n : Nat) (l : List UInt8), l.length = n → Canon l → Lib.decDigits (l.foldl digStep 0) = l := by
  intro n
  induction n using Nat.strongRecOn with
  | ind n ih =>
    intro l hn h
    rcases List.eq_nil_or_concat l with hl | ⟨q, d, hl⟩
    · exact absurd hl h.1
    rw [List.concat_eq_append] at hl
    subst hl
    have hd := h.2.1 d (by simp)
    rw [List.foldl_append]
    simp only [List.foldl_cons, List.foldl_nil]
    by_cases hq : q = []
    · subst hq
      simp only [List.foldl_nil, List.nil_append, digStep]
      rw [Lib.decDigits_one (by omega)]
      simp only [Nat.zero_mul, Nat.zero_add]
      rw [byte_of d hd]
    · have h0 : q.head? ≠ some 48 := by
        intro e
        have := h.2.2 (by cases q with | nil => exact absurd rfl hq | cons a b => simpa using e)
        cases q with
        | nil => exact absurd rfl hq
        | cons a b => simp at this
      have hqc : Canon q := ⟨hq, fun c m => h.2.1 c (by simp [m]), fun e => absurd e h0⟩
      have hp := fold_pos q hqc h0
      have hlen : q.length < n := by rw [← hn]; simp
      rw [Lib.decDigits, dif_neg (by unfold digStep at *; omega)]
      have e1 : digStep (q.foldl digStep 0) d / 10 = q.foldl digStep 0 := by unfold digStep; omega
      have e2 : digStep (q.foldl digStep 0) d % 10 = d.toNat - 48 := by unfold digStep; omega
      rw [e1, e2, ih q.length hlen q rfl hqc, byte_of d hd]

theorem dec_canon (u : Nat) : Canon (Lib.decDigits u) := by
  refine ⟨dec_ne_nil u, dec_digit u, ?_⟩
  induction u using Nat.strongRecOn with
  | ind u ih =>
    rw [Lib.decDigits]
    split
    · simp
    · rename_i h
      intro e
      exfalso
      have hne := dec_ne_nil (u / 10)
      have e' : (Lib.decDigits (u / 10)).head? = some 48 := by
        cases hl : Lib.decDigits (u / 10) with
        | nil => exact absurd hl hne
        | cons a b => rw [hl] at e; simpa using e
      have hl := ih (u / 10) (by omega) e'
      have hv := dec_fold (u / 10)
      cases hq : Lib.decDigits (u / 10) with
      | nil => exact absurd hq hne
      | cons a b =>
        rw [hq] at hl hv e'
        simp at hl e'
        subst hl e'
        simp [digStep] at hv
        omega

theorem fold_lt (l : List UInt8) (h : ∀ c ∈ l, 48 ≤ c.toNat ∧ c.toNat ≤ 57) : ∀ a, l.foldl digStep a < (a + 1) * 10 ^ l.length := by
  induction l with
  | nil => intro a; simp
  | cons c r ih =>
    intro a
    have hc := h c (by simp)
    have := ih (fun d m => h d (by simp [m])) (digStep a c)
    simp only [List.foldl_cons, List.length_cons]
    refine Nat.lt_of_lt_of_le this ?_
    rw [Nat.pow_succ, Nat.mul_comm (10 ^ r.length) 10, ← Nat.mul_assoc]
    refine Nat.mul_le_mul_right _ ?_
    unfold digStep; omega

theorem dec_len (u k : Nat) (hk : 0 < k) (h : u < 10 ^ k) : (Lib.decDigits u).length ≤ k := by
  induction k generalizing u with
  | zero => omega
  | succ k ih =>
    rw [Lib.decDigits]
    split
    · simp
    · rename_i h9
      rw [List.length_append]
      have hk0 : 0 < k := by
        rcases Nat.eq_zero_or_pos k with rfl | h0
        · simp at h; omega
        · exact h0
      have := ih (u / 10) hk0 (by rw [Nat.pow_succ] at h; omega)
      simp; omega

def Small (n : Int) : Prop := -100000000000000000 < n ∧ n < 100000000000000000
theorem Small.fits {n : Int} (h : Small n) : Fits n := by unfold Small at h; unfold Fits; omega

theorem fold_small (r : List UInt8) (h : Canon r) (hl : r.length ≤ 17) : r.foldl digStep 0 < 100000000000000000 := by
  have h1 := fold_lt r h.2.1 0
  have h2 : (0 + 1) * 10 ^ r.length ≤ 10 ^ 17 := by rw [Nat.zero_add, Nat.one_mul]; exact Nat.pow_le_pow_right (by decide) hl
  exact Nat.lt_of_lt_of_le h1 h2

theorem num_good_pos (r : List UInt8) (h : Canon r) (hl : r.length ≤ 17) : Lib.itoa (r.foldl digStep 0 : Nat) = r ∧ Small (r.foldl digStep 0 : Nat) := by
  have := fold_small r h hl
  refine ⟨?_, by unfold Small; omega⟩
  rw [itoa_pos' _ (by omega)]
  simp only [Int.toNat_natCast]
  exact canon_dec _ r rfl h

theorem num_good_neg (r : List UInt8) (h : Canon r) (hl : r.length ≤ 17) (h0 : r.head? ≠ some 48) : Lib.itoa (-(r.foldl digStep 0 : Nat)) = 45 :: r ∧ Small (-(r.foldl digStep 0 : Nat)) := by
  have := fold_small r h hl
  have := fold_pos r h h0
  refine ⟨?_, by unfold Small; omega⟩
  rw [itoa_neg' _ (by omega)]
  simp only [Int.natAbs_neg, Int.natAbs_natCast]
  rw [canon_dec _ r rfl h]

theorem num_of (n : Int) (hs : Small n) : (∃ r, Lib.itoa n = 45 :: r ∧ Canon r ∧ r.length ≤ 17 ∧ r.head? ≠ some 48) ∨ ((Lib.itoa n).head? ≠ some 45 ∧ Canon (Lib.itoa n) ∧ (Lib.itoa n).length ≤ 17) := by
  unfold Small at hs
  by_cases hn : n < 0
  · refine .inl ⟨_, itoa_neg' n hn, dec_canon _, dec_len _ 17 (by decide) (by omega), fun e => ?_⟩
    have h1 := (dec_canon n.natAbs).2.2 e
    have h2 := dec_fold n.natAbs
    cases hq : Lib.decDigits n.natAbs with
    | nil => exact absurd hq (dec_ne_nil _)
    | cons a b =>
      rw [hq] at h1 h2 e
      simp at h1 e
      subst h1 e
      simp [digStep] at h2
      omega
  · refine .inr ?_
    rw [itoa_pos' n hn]
    refine ⟨fun e => ?_, dec_canon _, dec_len _ 17 (by decide) (by omega)⟩
    cases hq : Lib.decDigits n.toNat with
    | nil => exact absurd hq (dec_ne_nil _)
    | cons a b =>
      rw [hq] at e
      simp at e
      exact dec_no_minus _ b (by rw [hq, e])

/-- A text that is cut at the first of a sign, or has none. -/
theorem index1 (c : UInt8) : ∀ l : List UInt8, (c ∉ l ∧ Lib.index l [c] = -1) ∨ ∃ A B, l = A ++ c :: B ∧ c ∉ A ∧ Lib.index l [c] = A.length
  | [] => .inl ⟨by simp, rfl⟩
  | b :: l => by
    by_cases hb : c = b
    · subst hb
      exact .inr ⟨[], l, rfl, by simp, by simp [Lib.index]⟩
    · rcases index1 c l with ⟨h1, h2⟩ | ⟨A, B, h1, h2, h3⟩
      · exact .inl ⟨by simp [hb, h1], by simp [Lib.index, hb, h2]⟩
      · refine .inr ⟨b :: A, B, by rw [h1]; rfl, by simp [hb, h2], ?_⟩
        have : ¬ ((A.length : Int) = -1) := by omega
        simp [Lib.index, hb, h3, this]

theorem cut1 (c : UInt8) (l : List UInt8) : (c ∉ l ∧ Lib.cut l [c] = (l, [], false)) ∨ ∃ A B, l = A ++ c :: B ∧ c ∉ A ∧ Lib.cut l [c] = (A, B, true) := by
  rcases index1 c l with ⟨h1, h2⟩ | ⟨A, B, h1, h2, h3⟩
  · refine .inl ⟨h1, ?_⟩
    unfold Lib.cut; rw [h2, if_neg (by omega)]
  · refine .inr ⟨A, B, h1, h2, ?_⟩
    unfold Lib.cut; rw [h3, if_pos (by omega)]
    rw [h1]
    simp

/-- The pieces of a text between signs c. -/
def cutAll (c : UInt8) : List UInt8 → List UInt8 → List (List UInt8)
  | acc, [] => [acc]
  | acc, x :: r => if x = c then acc :: cutAll c [] r else cutAll c (acc ++ [x]) r
def joinAll (c : UInt8) : List (List UInt8) → List UInt8
  | [] => []
  | [p] => p
  | p :: q :: r => p ++ (c :: joinAll c (q :: r))

theorem cutAll_ne (c : UInt8) : ∀ (acc l : List UInt8), cutAll c acc l ≠ []
  | acc, [] => by simp [cutAll]
  | acc, x :: r => by
    unfold cutAll
    split
    · simp
    · exact cutAll_ne c _ r
theorem cutAll_len (c : UInt8) : ∀ (acc l : List UInt8), (cutAll c acc l).length ≤ l.length + 1
  | acc, [] => by simp [cutAll]
  | acc, x :: r => by
    unfold cutAll
    split
    · have := cutAll_len c [] r; simp; omega
    · have := cutAll_len c (acc ++ [x]) r; simp; omega
theorem joinAll_cons (c : UInt8) (p : List UInt8) (ps : List (List UInt8)) (h : ps ≠ []) : joinAll c (p :: ps) = p ++ (c :: joinAll c ps) := by
  cases ps with
  | nil => exact absurd rfl h
  | cons => rfl
theorem join_cut (c : UInt8) : ∀ (acc l : List UInt8), joinAll c (cutAll c acc l) = acc ++ l
  | acc, [] => by simp [cutAll, joinAll]
  | acc, x :: r => by
    unfold cutAll
    split
    · rename_i h
      rw [joinAll_cons c _ _ (cutAll_ne c _ _), join_cut c [] r, h]; rfl
    · rw [join_cut c _ r]; simp
theorem cut_skip (c : UInt8) : ∀ (p acc r : List UInt8), c ∉ p → cutAll c acc (p ++ r) = cutAll c (acc ++ p) r
  | [], acc, r, _ => by simp
  | x :: p, acc, r, h => by
    have hx : ¬ x = c := fun e => h (by simp [e])
    rw [List.cons_append]
    unfold cutAll
    rw [if_neg hx, cut_skip c p _ r (fun m => h (by simp [m]))]
    simp
    cases r <;> simp [cutAll]

theorem itoa_len8 (n : Int) (h : -1000000 ≤ n ∧ n ≤ 1000000) : (Lib.itoa n).length ≤ 8 := by
  by_cases hn : n < 0
  · rw [itoa_neg' n hn]
    have := dec_len n.natAbs 7 (by decide) (by omega)
    simp; omega
  · rw [itoa_pos' n hn]
    have := dec_len n.toNat 7 (by decide) (by omega)
    omega

theorem itoa_ne_nil (n : Int) : Lib.itoa n ≠ [] := by
  by_cases h : n < 0
  · rw [itoa_neg' n h]; simp
  · rw [itoa_pos' n h]; exact dec_ne_nil _

/-- The number of a text, as writing tells it. -/
def ReadsNum (B : Int → Prop) (l : List UInt8) (e : Ending) : Prop :=
  (∃ n, B n ∧ Lib.itoa n = l ∧ e = .returned (.tuple #[.int .i64 n, .bool true])) ∨ ((∀ n, B n → Lib.itoa n ≠ l) ∧ e = .returned (.tuple #[.int .i64 0, .bool false]))

theorem cut_no (c : UInt8) : ∀ (acc l : List UInt8), c ∉ acc → ∀ x ∈ cutAll c acc l, c ∉ x
  | acc, [], ha, x, hx => by simp [cutAll] at hx; rw [hx]; exact ha
  | acc, y :: r, ha, x, hx => by
    unfold cutAll at hx
    split at hx
    · rcases List.mem_cons.1 hx with rfl | hx
      · exact ha
      · exact cut_no c [] r (by simp) x hx
    · rename_i hy
      exact cut_no c (acc ++ [y]) r (by simp [ha]; exact fun e => hy e.symm) x hx
end Go.Proofs.YtokbakphfodabaaDoor.Own

namespace Go.Proofs.YtokbakphfodabaaDoor.Own
open Go.RowKit
set_option linter.unusedVariables false

/-- An entry that is not there. -/
def noneE (e : EB) : Bool := likeE e.n false (e.p, e.q) (0, 0) e.xs e.ys [] [] e.v e.k 0 0
/-- An entry that is right. -/
def rightE (e : EB) : Bool := entOk e.n e.p e.q e.xs e.ys e.v e.k
end Go.Proofs.YtokbakphfodabaaDoor.Own

namespace Go.Proofs.YtokbakphfodabaaDoor.Own
open Go.RowKit
set_option linter.unusedVariables false

/-- A sign that a number's text has. -/
def Sg (c : UInt8) : Prop := c.toNat = 45 ∨ (48 ≤ c.toNat ∧ c.toNat ≤ 57)
theorem sign_cut : ∀ {A A' : List UInt8} {c c' : UInt8} {B B' : List UInt8}, (∀ x ∈ A, Sg x) → (∀ x ∈ A', Sg x) → ¬ Sg c → ¬ Sg c' → A ++ c :: B = A' ++ c' :: B' → A = A' ∧ c :: B = c' :: B'
  | [], [], _, _, _, _, _, _, _, _, e => ⟨rfl, e⟩
  | [], a :: A', c, c', B, B', _, h', hc, _, e => by
    simp only [List.nil_append, List.cons_append] at e
    injection e with e1 _
    exact absurd (h' a (by simp)) (by rw [← e1]; exact hc)
  | a :: A, [], c, c', B, B', h, _, _, hc', e => by
    simp only [List.nil_append, List.cons_append] at e
    injection e with e1 _
    exact absurd (h a (by simp)) (by rw [e1]; exact hc')
  | a :: A, a' :: A', c, c', B, B', h, h', hc, hc', e => by
    simp only [List.cons_append] at e
    injection e with e1 e2
    obtain ⟨r1, r2⟩ := sign_cut (fun x hx => h x (by simp [hx])) (fun x hx => h' x (by simp [hx])) hc hc' e2
    exact ⟨by rw [e1, r1], r2⟩
theorem num_cut {a b : Int} {c c' : UInt8} {B B' : List UInt8} (hc : ¬ Sg c) (hc' : ¬ Sg c') (e : Lib.itoa a ++ c :: B = Lib.itoa b ++ c' :: B') : a = b ∧ c :: B = c' :: B' := by
  obtain ⟨h1, h2⟩ := sign_cut (fun x hx => itoa_sign a x hx) (fun x hx => itoa_sign b x hx) hc hc' e
  exact ⟨itoa_inj h1, h2⟩
/-- Pairs, one behind the other. -/
def flatP (m1 m2 : UInt8) : List P2 → List UInt8
  | [] => []
  | p :: r => pairText m1 m2 p ++ flatP m1 m2 r
theorem flatP_app (m1 m2 : UInt8) : ∀ (xs ys : List P2), flatP m1 m2 (xs ++ ys) = flatP m1 m2 xs ++ flatP m1 m2 ys
  | [], ys => rfl
  | p :: r, ys => by simp only [List.cons_append, flatP, flatP_app m1 m2 r ys, List.append_assoc]
theorem pairsTo_flat (m1 m2 : UInt8) (xs : List P2) : ∀ k, k ≤ xs.length → pairsTo m1 m2 [] xs k = flatP m1 m2 (xs.take k)
  | 0, _ => rfl
  | k + 1, h => by
    have e : xs.take (k + 1) = xs.take k ++ [xs.getD k (0, 0)] := by
      rw [List.take_add_one]
      congr 1
      simp [List.getD, List.getElem?_eq_getElem (show k < xs.length from h)]
    rw [e, flatP_app, ← pairsTo_flat m1 m2 xs k (by omega)]
    simp [pairsTo, flatP]
theorem pairsTo_all (m1 m2 : UInt8) (xs : List P2) : pairsTo m1 m2 [] xs xs.length = flatP m1 m2 xs := by
  rw [pairsTo_flat m1 m2 xs _ (Nat.le_refl _), List.take_length]
theorem flat_head (m1 m2 : UInt8) (xs : List P2) (c : UInt8) (t : List UInt8) : ∃ d z, flatP m1 m2 xs ++ c :: t = d :: z ∧ (d = c ∨ d = m1) := by
  cases xs with
  | nil => exact ⟨c, t, rfl, .inl rfl⟩
  | cons p r => exact ⟨m1, _, rfl, .inr rfl⟩
theorem flat_cut {m1 m2 : UInt8} (h1 : ¬ Sg m1) (h2 : ¬ Sg m2) : ∀ (xs ys : List P2) {c c' : UInt8} {t t' : List UInt8}, ¬ Sg c → ¬ Sg c' → c ≠ m1 → c' ≠ m1 → flatP m1 m2 xs ++ c :: t = flatP m1 m2 ys ++ c' :: t' → xs = ys ∧ c :: t = c' :: t'
  | [], [], _, _, _, _, _, _, _, _, e => ⟨rfl, e⟩
  | [], p :: r, c, c', t, t', _, _, n, _, e => by
    simp only [flatP, pairText, List.nil_append, List.cons_append] at e
    injection e with e1 _
    exact absurd e1 n
  | p :: r, [], c, c', t, t', _, _, _, n, e => by
    simp only [flatP, pairText, List.nil_append, List.cons_append] at e
    injection e with e1 _
    exact absurd e1.symm n
  | p :: r, q :: s, c, c', t, t', hc, hc', n, n', e => by
    simp only [flatP, pairText, List.cons_append, List.append_assoc] at e
    injection e with _ e
    obtain ⟨f1, e⟩ := num_cut h2 h2 e
    injection e with _ e
    obtain ⟨d, z, ez, hd⟩ := flat_head m1 m2 r c t
    obtain ⟨d', z', ez', hd'⟩ := flat_head m1 m2 s c' t'
    have g : flatP m1 m2 r ++ c :: t = flatP m1 m2 s ++ c' :: t' := by
      rw [ez, ez'] at e ⊢
      exact (num_cut (by rcases hd with rfl | rfl <;> assumption) (by rcases hd' with rfl | rfl <;> assumption) e).2
    have f2 : p.2 = q.2 := by
      rw [ez, ez'] at e
      exact (num_cut (by rcases hd with rfl | rfl <;> assumption) (by rcases hd' with rfl | rfl <;> assumption) e).1
    obtain ⟨r1, r2⟩ := flat_cut h1 h2 r s hc hc' n n' g
    exact ⟨by rw [r1, show p = q from Prod.ext f1 f2], r2⟩
theorem entText_flat (e : EB) (h : e.n = false) : entText e = Lib.itoa e.p ++ 46 :: (Lib.itoa e.q ++ 123 :: (flatP 63 47 e.xs ++ (flatP 33 61 e.ys ++ 125 :: (Lib.itoa e.v ++ 58 :: Lib.itoa e.k)))) := by
  unfold entText putsText readsText headText
  rw [h]
  simp only [Bool.false_eq_true, if_false]
  rw [pairsTo_app 33 61, pairsTo_app 63 47, pairsTo_all, pairsTo_all]
  simp only [List.append_assoc, List.cons_append, List.nil_append]
theorem entText_inj {a b : EB} (ha : a.n = false) (hb : b.n = false) (e : entText a = entText b) : a = b := by
  rw [entText_flat a ha, entText_flat b hb] at e
  have s46 : ¬ Sg 46 := by simp [Sg]
  have s123 : ¬ Sg 123 := by simp [Sg]
  have s63 : ¬ Sg 63 := by simp [Sg]
  have s33 : ¬ Sg 33 := by simp [Sg]
  have s47 : ¬ Sg 47 := by simp [Sg]
  have s61 : ¬ Sg 61 := by simp [Sg]
  have s125 : ¬ Sg 125 := by simp [Sg]
  have s58 : ¬ Sg 58 := by simp [Sg]
  obtain ⟨f1, e⟩ := num_cut s46 s46 e
  injection e with _ e
  obtain ⟨f2, e⟩ := num_cut s123 s123 e
  injection e with _ e
  obtain ⟨d, z, ez, hd⟩ := flat_head 33 61 a.ys 125 (Lib.itoa a.v ++ 58 :: Lib.itoa a.k)
  obtain ⟨d', z', ez', hd'⟩ := flat_head 33 61 b.ys 125 (Lib.itoa b.v ++ 58 :: Lib.itoa b.k)
  rw [ez, ez'] at e
  obtain ⟨f3, e⟩ := flat_cut s63 s47 a.xs b.xs (by rcases hd with rfl | rfl <;> assumption) (by rcases hd' with rfl | rfl <;> assumption) (by rcases hd with rfl | rfl <;> decide) (by rcases hd' with rfl | rfl <;> decide) e
  rw [← ez, ← ez'] at e
  obtain ⟨f4, e⟩ := flat_cut s33 s61 a.ys b.ys s125 s125 (by decide) (by decide) e
  injection e with _ e
  obtain ⟨f5, e⟩ := num_cut s58 s58 e
  injection e with _ e
  have f6 := itoa_inj e
  cases a; cases b
  simp only at ha hb f1 f2 f3 f4 f5 f6
  subst ha hb f1 f2 f3 f4 f5 f6
  rfl
theorem none_text {b : EB} (hb : b.n = false) : entText b ≠ [110, 111, 110, 101] := by
  intro e
  rw [entText_flat b hb] at e
  have e1 : ([] : List UInt8) ++ 110 :: [111, 110, 101] = Lib.itoa b.p ++ 46 :: (Lib.itoa b.q ++ 123 :: (flatP 63 47 b.xs ++ (flatP 33 61 b.ys ++ 125 :: (Lib.itoa b.v ++ 58 :: Lib.itoa b.k)))) := e.symm
  have := (sign_cut (by simp) (fun x hx => itoa_sign b.p x hx) (by simp [Sg]) (by simp [Sg]) e1).2
  injection this with h _
  exact absurd h (by decide)
theorem right_none {a : EB} (h : rightE a = true) (n : a.n = true) : a = ⟨true, 0, 0, [], [], 0, 0⟩ := by
  cases a
  simp only at n
  subst n
  simp only [rightE, entOk, if_true, likeE, sameRun, Bool.and_eq_true, beq_iff_eq, eq2_iff] at h
  obtain ⟨⟨_, hp⟩, ⟨⟨h1, h2⟩, h3⟩, h4⟩ := h
  injection hp with p1 p2
  subst p1 p2 h1 h2 h3 h4
  rfl
theorem like_iff (a b : EB) : likeE a.n b.n (a.p, a.q) (b.p, b.q) a.xs a.ys b.xs b.ys a.v a.k b.v b.k = true ↔ a = b := by
  cases a; cases b
  simp only [likeE, sameRun, Bool.and_eq_true, beq_iff_eq, eq2_iff, EB.mk.injEq, Prod.mk.injEq]
  constructor
  · rintro ⟨⟨h1, h2, h3⟩, ⟨⟨h4, h5⟩, h6⟩, h7⟩
    exact ⟨h1, h2, h3, h6, h7, h5, h4⟩
  · rintro ⟨h1, h2, h3, h6, h7, h5, h4⟩
    exact ⟨⟨h1, h2, h3⟩, ⟨⟨h4, h5⟩, h6⟩, h7⟩
/-- Entries that are right are one just if their texts are. -/
theorem like_text {a b : EB} (ha : rightE a = true) (hb : rightE b = true) : likeE a.n b.n (a.p, a.q) (b.p, b.q) a.xs a.ys b.xs b.ys a.v a.k b.v b.k = decide (str (entText a) = str (entText b)) := by
  rw [Bool.eq_iff_iff, like_iff, decide_eq_true_eq]
  constructor
  · intro e; rw [e]
  · intro e
    have e := str_inj e
    cases na : a.n with
    | true =>
      have ea := right_none ha na
      cases nb : b.n with
      | true => rw [ea, right_none hb nb]
      | false =>
        refine absurd ?_ (none_text nb)
        rw [← e, ea]; rfl
    | false =>
      cases nb : b.n with
      | true =>
        refine absurd ?_ (none_text na)
        rw [e, right_none hb nb]; rfl
      | false => exact entText_inj na nb e
theorem okAll_wf {f : Int → Bool} (hf : ∀ n, f n = true → Fits n) {xs : List P2} (h : okAll f xs = true) : WfP xs := fun k hk => by
  have := okAll_iff.1 h k hk
  obtain ⟨j, hj, e⟩ := okAll_box h k hk
  simp only [okAt, Bool.and_eq_true] at this
  exact ⟨by rw [e]; unfold Fits; omega, hf _ this.1.2⟩
theorem FitsE.wf {e : EB} (h : FitsE e) : WfE e :=
  ⟨h.1.1, h.1.2.1, okAll_wf (fun n hn => by simp [verOk] at hn; unfold Fits; omega) h.2.2.1, okAll_wf (fun n hn => by simp [numOk] at hn; unfold Fits; omega) h.2.2.2, h.2.1, h.1.2.2⟩
end Go.Proofs.YtokbakphfodabaaDoor.Own
