/-
  Own texts, bundled: ExecSameS, EntOkS, VoteS, VotesS.
-/
import Derived.Test.YtildonpdmmliaaaGreatDoorPk4
import Derived.Deep.Cut
import Derived.Deep.CutRange
import Derived.Test.YtildonpdmmliaaaGreatDoorPk5
import Derived.Test.YtildonpdmmliaaaGreatDoorPk9
import Derived.BigQuiet
import Derived.Lib.QuietBelow
namespace Go.Proofs.YtildonpdmmliaaaGreatDoor.Own
open Go.RowKit
set_option linter.unusedVariables false
set_option linter.unusedSimpArgs false

set_option maxRecDepth 100000 in
set_option maxHeartbeats 4000000 in
theorem specExecSame (a1 a2 b1 b2 : Option Addr) (c1 c2 d1 d2 : Nat) (xs ys zs us : List P2) (v k v' k' : Int) (w : World) (h1 : Sl w a1 xs) (h2 : Sl w a2 ys) (h3 : Sl w b1 zs) (h4 : Sl w b2 us)
    (n1 : xs.length ≤ 2 ^ 40) (n2 : ys.length ≤ 2 ^ 40) (n3 : zs.length ≤ 2 ^ 40) (n4 : us.length ≤ 2 ^ 40) :
    Calls Tryz.prog 43 #[.agg #[.slice a1 xs.length c1, .slice a2 ys.length c2, .int .i64 v, .int .i64 k], .agg #[.slice b1 zs.length d1, .slice b2 us.length d2, .int .i64 v', .int .i64 k']] w fun e w' => e = .returned (.bool (sameRun xs ys zs us v k v' k')) ∧ Below w.heap.size w w' := by
  have H1 : Hid (Sl w a1 xs) := h1
  have H2 : Hid (Sl w a2 ys) := h2
  have H3 : Hid (Sl w b1 zs) := h3
  have H4 : Hid (Sl w b2 us) := h4
  clear h1 h2 h3 h4
  have E : Hid (sameRun xs ys zs us v k v' k' = (k == k' && v == v' && xs == zs && ys == us)) := rfl
  obtain ⟨W, hW⟩ : ∃ W, W = (w.alloc (.cells #[.slice a1 xs.length c1, .slice a2 ys.length c2, .int .i64 v, .int .i64 k] 39)).alloc (.cells #[.slice b1 zs.length d1, .slice b2 us.length d2, .int .i64 v', .int .i64 k'] 39) := ⟨_, rfl⟩
  have hbW : Hid (Below w.heap.size w W) := by
    show Below _ _ _
    rw [hW]; exact ((Below.refl _ _).alloc (Nat.le_refl _) _).alloc (by simp) _
  have hsW : Hid (W.heap.size = w.heap.size + 2) := by show _ = _; rw [hW]; simp
  have g0 : Hid (W.heap[w.heap.size]? = some (.cells #[.slice a1 xs.length c1, .slice a2 ys.length c2, .int .i64 v, .int .i64 k] 39 (0, 0))) := by
    show _ = _
    rw [hW]; exact heap_new1 _ _ _
  have g1 : Hid (W.heap[w.heap.size + 1]? = some (.cells #[.slice b1 zs.length d1, .slice b2 us.length d2, .int .i64 v', .int .i64 k'] 39 (0, 0))) := by
    show _ = _
    rw [hW]; exact heap_new2 _ _ _
  have CC : Hid (∀ wr, Below W.heap.size W wr → (wr.cell? ⟨w.heap.size, 0, none⟩ = some (.slice a1 xs.length c1) ∧ wr.cell? ⟨w.heap.size + 1, 0, none⟩ = some (.slice b1 zs.length d1)) ∧ wr.cell? ⟨w.heap.size, 1, none⟩ = some (.slice a2 ys.length c2) ∧ wr.cell? ⟨w.heap.size + 1, 1, none⟩ = some (.slice b2 us.length d2)) := by
    intro wr hB
    have e0 : ∀ o, wr.cell? ⟨w.heap.size, o, none⟩ = W.cell? ⟨w.heap.size, o, none⟩ := fun o => hB.cell (p := ⟨w.heap.size, o, none⟩) (by show w.heap.size < _; have := hsW.out; omega)
    have e1 : ∀ o, wr.cell? ⟨w.heap.size + 1, o, none⟩ = W.cell? ⟨w.heap.size + 1, o, none⟩ := fun o => hB.cell (p := ⟨w.heap.size + 1, o, none⟩) (by show w.heap.size + 1 < _; have := hsW.out; omega)
    rw [e0, e0, e1, e1, cell_heap g0.out, cell_heap g0.out, cell_heap g1.out, cell_heap g1.out]
    exact ⟨⟨rfl, rfl⟩, rfl, rfl⟩
  have HW : Hid (W = _) := hW
  clear hW
  obtain ⟨bad, hbad⟩ : ∃ b, b = (v != v' || (k != k' || ((xs.length : Int) != (zs.length : Int) || (ys.length : Int) != (us.length : Int)))) := ⟨_, rfl⟩
  have HBAD : Hid (bad = (v != v' || (k != k' || ((xs.length : Int) != (zs.length : Int) || (ys.length : Int) != (us.length : Int))))) := hbad
  clear hbad
  go_enter Tryz.func43, Tryz.ntmps43
  go_upto_region 1 with fail
  go_cut [36] from 7 to 36 (fun c wx => c = .bool bad ∧ wx = W)
  case first =>
    cases e1 : (v != v') with
    | true =>
      go_wp2_with fail
      go_meet
      exact ⟨by rw [HBAD.out, e1]; rfl, HW.out.symm⟩
    | false =>
      cases e2 : (k != k') with
      | true =>
        go_wp2_with fail
        go_meet
        exact ⟨by rw [HBAD.out, e1, e2]; rfl, HW.out.symm⟩
      | false =>
        cases e3 : ((xs.length : Int) != (zs.length : Int)) with
        | true =>
          go_wp2_with fail
          go_meet
          exact ⟨by rw [HBAD.out, e1, e2, e3]; rfl, HW.out.symm⟩
        | false =>
          go_wp2_with fail
          go_meet
          exact ⟨by rw [HBAD.out, e1, e2, e3]; rfl, HW.out.symm⟩
  case rest =>
    obtain ⟨rfl, hwc⟩ := hcut
    have hwc' := hwc.symm
    subst hwc'
    clear hwc
    cases bad with
    | true =>
      have F : Hid (sameRun xs ys zs us v k v' k' = false) := by
        show _ = _
        rw [Bool.eq_false_iff, E.out]
        intro h
        simp only [Bool.and_eq_true, beq_iff_eq] at h
        obtain ⟨⟨⟨rfl, rfl⟩, rfl⟩, rfl⟩ := h
        have := HBAD.out
        simp at this
      go_wp2_with fail
      go_ret
      exact ⟨ret_bool F.out.symm, hbW.out⟩
    | false =>
      have HE : Hid (v = v' ∧ k = k' ∧ xs.length = zs.length ∧ ys.length = us.length) := by
        have := HBAD.out.symm
        simp only [Bool.or_eq_false_iff, bne_eq_false_iff_eq] at this
        exact ⟨this.1, this.2.1, by omega, by omega⟩
      have E2 : Hid (sameRun xs ys zs us v k v' k' = (xs == zs && ys == us)) := by show _ = _; rw [E.out]; simp [HE.out.1, HE.out.2.1]
      clear HBAD E
      obtain ⟨⟨q0, q1⟩, _⟩ := CC.out W (Below.refl _ _)
      go_wp2_with fail
      clear q0 q1
      go_loopw [5] (fun i wr => ∃ j : Nat, j ≤ xs.length ∧ i = .int .i64 j ∧ Hid (xs.take j = zs.take j) ∧ Below W.heap.size W wr) (fun i _ => xs.length - (intOf i).toNat)
      case atStart => exact ⟨0, Nat.zero_le _, rfl, rfl, Below.refl _ _⟩
      case round =>
        obtain ⟨j, hj, rfl, hA, hB⟩ := hrel
        have HB : Hid (Below W.heap.size W wr) := hB
        obtain ⟨⟨q0, q1⟩, q2, q3⟩ := CC.out wr hB
        by_cases hlt : j < xs.length
        · have hlt2 : j < zs.length := by rw [← HE.out.2.2.1]; exact hlt
          rcases H1.out with h | ⟨b1', o1, rfl, h1⟩
          · subst h; simp at hlt
          rcases H3.out with h | ⟨b2', o2, rfl, h2⟩
          · subst h; simp at hlt2
          have H1' : Hid (BoxAt wr b1' o1 xs) := (h1.below hbW.out).below hB
          have H2' : Hid (BoxAt wr b2' o2 zs) := (h2.below hbW.out).below hB
          clear h1 h2 hB
          have HT : Hid ((xs.take (j + 1) = zs.take (j + 1)) ↔ (xs.getD j (0, 0) = zs.getD j (0, 0))) := by
            unfold Hid; rw [take_succ_eqG (0, 0) hlt hlt2]; exact ⟨fun h => h.2, fun h => ⟨hA, h⟩⟩
          obtain ⟨p, hp⟩ : ∃ p, p = xs.getD j (0, 0) := ⟨_, rfl⟩
          obtain ⟨q, hq⟩ : ∃ q, q = zs.getD j (0, 0) := ⟨_, rfl⟩
          obtain ⟨ca, cb⟩ := H1'.out.2 j hlt
          obtain ⟨da, db⟩ := H2'.out.2 j hlt2
          rw [← hp] at ca cb
          rw [← hq] at da db
          have HP : Hid (p = xs.getD j (0, 0)) := hp
          have HQ : Hid (q = zs.getD j (0, 0)) := hq
          clear hp hq
          obtain ⟨p1, p2⟩ := p
          obtain ⟨r1, r2⟩ := q
          have hne := fun w => neqRead p1 p2 r1 r2 w
          cases hpq : eq2 (p1, p2) (r1, r2) with
          | true =>
            have N : Hid (xs.take (j + 1) = zs.take (j + 1)) := by
              show _ = _
              apply HT.out.2
              rw [← HP.out, ← HQ.out]
              exact (eq2_iff _ _).1 hpq
            rw [hpq] at hne
            clear HT
            go_wp2
            go_quiet (fail)
            go_wp2
            go_roundw
            case rel => exact ⟨j + 1, by omega, by go_num, N, below_drewN HB.out _⟩
            case measure => simp [intOf]; omega
          | false =>
            have F : Hid ((xs == zs) = false) := by
              show _ = _
              apply ne_of_getDG (k := j) (0, 0)
              rw [← HP.out, ← HQ.out]
              exact (eq2_false _ _).1 hpq
            rw [hpq] at hne
            clear HT
            go_wp2
            go_quiet (fail)
            go_wp2
            go_ret
            exact ⟨ret_bool (by rw [E2.out, F.out]; rfl), below_drewN (hbW.out.trans (HB.out.mono hbW.out.size)) _⟩
        · have HA : Hid ((xs == zs) = true) := by
            show _ = _
            have h1 : j = xs.length := by omega
            have h := hA.out
            subst h1
            rw [List.take_length] at h
            have h3 := HE.out.2.2.1
            rw [List.take_of_length_le (by omega)] at h
            simp [h]
          clear hB hA
          go_wp2_with fail
          clear q0 q1 q2 q3 hlt
          go_loopw [6] (fun i ws => ∃ j : Nat, j ≤ ys.length ∧ i = .int .i64 j ∧ Hid (ys.take j = us.take j) ∧ Below W.heap.size W ws) (fun i _ => ys.length - (intOf i).toNat)
          case atStart => exact ⟨0, Nat.zero_le _, rfl, rfl, HB.out⟩
          case round =>
            clear HB
            obtain ⟨m, hm, rfl, hA, hB⟩ := hrel
            have HB : Hid (Below W.heap.size W wr) := hB
            obtain ⟨_, q2, q3⟩ := CC.out wr hB
            by_cases hlt : m < ys.length
            · have hlt2 : m < us.length := by rw [← HE.out.2.2.2]; exact hlt
              rcases H2.out with h | ⟨b1', o1, rfl, h1⟩
              · subst h; simp at hlt
              rcases H4.out with h | ⟨b2', o2, rfl, h2⟩
              · subst h; simp at hlt2
              have H1' : Hid (BoxAt wr b1' o1 ys) := (h1.below hbW.out).below hB
              have H2' : Hid (BoxAt wr b2' o2 us) := (h2.below hbW.out).below hB
              clear h1 h2 hB
              have HT : Hid ((ys.take (m + 1) = us.take (m + 1)) ↔ (ys.getD m (0, 0) = us.getD m (0, 0))) := by
                unfold Hid; rw [take_succ_eqG (0, 0) hlt hlt2]; exact ⟨fun h => h.2, fun h => ⟨hA, h⟩⟩
              obtain ⟨p, hp⟩ : ∃ p, p = ys.getD m (0, 0) := ⟨_, rfl⟩
              obtain ⟨q, hq⟩ : ∃ q, q = us.getD m (0, 0) := ⟨_, rfl⟩
              obtain ⟨ca, cb⟩ := H1'.out.2 m hlt
              obtain ⟨da, db⟩ := H2'.out.2 m hlt2
              rw [← hp] at ca cb
              rw [← hq] at da db
              have HP : Hid (p = ys.getD m (0, 0)) := hp
              have HQ : Hid (q = us.getD m (0, 0)) := hq
              clear hp hq
              obtain ⟨p1, p2⟩ := p
              obtain ⟨r1, r2⟩ := q
              have hne := fun w => neqPut p1 p2 r1 r2 w
              cases hpq : eq2 (p1, p2) (r1, r2) with
              | true =>
                have N : Hid (ys.take (m + 1) = us.take (m + 1)) := by
                  show _ = _
                  apply HT.out.2
                  rw [← HP.out, ← HQ.out]
                  exact (eq2_iff _ _).1 hpq
                rw [hpq] at hne
                clear HT
                go_wp2
                go_quiet (fail)
                go_wp2
                go_roundw
                case rel => exact ⟨m + 1, by omega, by go_num, N, below_drewN HB.out _⟩
                case measure => simp [intOf]; omega
              | false =>
                have F : Hid ((ys == us) = false) := by
                  show _ = _
                  apply ne_of_getDG (k := m) (0, 0)
                  rw [← HP.out, ← HQ.out]
                  exact (eq2_false _ _).1 hpq
                rw [hpq] at hne
                clear HT
                go_wp2
                go_quiet (fail)
                go_wp2
                go_ret
                exact ⟨ret_bool (by rw [E2.out, F.out]; simp), below_drewN (hbW.out.trans (HB.out.mono hbW.out.size)) _⟩
            · have HA2 : Hid ((ys == us) = true) := by
                show _ = _
                have h1 : m = ys.length := by omega
                have h := hA.out
                subst h1
                rw [List.take_length] at h
                have h3 := HE.out.2.2.2
                rw [List.take_of_length_le (by omega)] at h
                simp [h]
              clear hB hA
              go_wp2
              go_ret
              exact ⟨ret_bool (by rw [E2.out, HA.out, HA2.out]; rfl), hbW.out.trans (HB.out.mono hbW.out.size)⟩
end Go.Proofs.YtildonpdmmliaaaGreatDoor.Own

namespace Go.Proofs.YtildonpdmmliaaaGreatDoor.Own
open Go.RowKit
set_option linter.unusedVariables false
set_option linter.unusedSimpArgs false

theorem specReqOk (p q : Int) (w : World) : Calls Tryz.prog 44 #[.agg #[.int .i64 p, .int .i64 q]] w fun e w' => e = .returned (.bool (reqOk p q)) ∧ Below w.heap.size w w' := by
  have R : Hid (reqOk p q = (decide (0 ≤ p) && decide (p < 3) && decide (1 ≤ q) && decide (q ≤ 1000))) := rfl
  have B0 : ∀ o, Hid (Below w.heap.size w (w.alloc o)) := fun o => (Below.refl _ _).alloc (Nat.le_refl _) _
  cases h1 : decide (0 ≤ p) with
  | false =>
    go_enter Tryz.func44, Tryz.ntmps44
    go_wp2
    go_ret
    exact ⟨ret_bool (by rw [R.out, h1]; rfl), (B0 _).out⟩
  | true =>
    cases h2 : decide (p < 3) with
    | false =>
      go_enter Tryz.func44, Tryz.ntmps44
      go_wp2
      go_ret
      exact ⟨ret_bool (by rw [R.out, h1, h2]; rfl), (B0 _).out⟩
    | true =>
      cases h3 : decide (1 ≤ q) with
      | false =>
        go_enter Tryz.func44, Tryz.ntmps44
        go_wp2
        go_ret
        exact ⟨ret_bool (by rw [R.out, h1, h2, h3]; rfl), (B0 _).out⟩
      | true =>
        go_enter Tryz.func44, Tryz.ntmps44
        go_wp2
        go_ret
        exact ⟨ret_bool (by rw [R.out, h1, h2, h3]; rfl), (B0 _).out⟩

set_option maxRecDepth 100000 in
set_option maxHeartbeats 1000000 in
theorem specCertEntryRun (p q : Int) (a1 a2 : Option Addr) (c1 c2 : Nat) (xs ys : List P2) (v k : Int) (w : World) (h1 : Sl w a1 xs) (h2 : Sl w a2 ys) (n1 : xs.length ≤ 2 ^ 40) (n2 : ys.length ≤ 2 ^ 40) (hc1 : xs.length ≤ c1) (hc2 : ys.length ≤ c2) :
    Calls Tryz.prog 25 #[.agg #[.bool false, .int .i64 p, .int .i64 q, .slice a1 xs.length c1, .slice a2 ys.length c2, .int .i64 v, .int .i64 k]] w fun e w' => e = .returned (.bool (reqOk p q && execOk xs ys v k && k != 3)) ∧ Below w.heap.size w w' := by
  have H1 : Hid (Sl w a1 xs) := h1
  have H2 : Hid (Sl w a2 ys) := h2
  clear h1 h2
  obtain ⟨W, hW⟩ : ∃ W, W = w.alloc (.cells #[.bool false, .int .i64 p, .int .i64 q, .slice a1 xs.length c1, .slice a2 ys.length c2, .int .i64 v, .int .i64 k] 41) := ⟨_, rfl⟩
  have BW : Hid (Below w.heap.size w W) := by show Below _ _ _; rw [hW]; exact (Below.refl _ _).alloc (Nat.le_refl _) _
  have G0 : Hid (Blk W w.heap.size #[.bool false, .int .i64 p, .int .i64 q, .slice a1 xs.length c1, .slice a2 ys.length c2, .int .i64 v, .int .i64 k] 41) := by show Blk _ _ _ _; rw [hW]; exact Blk.new _ _ _
  have HW : Hid (W = _) := hW
  clear hW
  obtain ⟨T, hT⟩ : ∃ T, T = (reqOk p q && execOk xs ys v k && k != 3) := ⟨_, rfl⟩
  have HT : Hid (T = (reqOk p q && execOk xs ys v k && k != 3)) := hT
  rw [← hT]
  clear hT
  go_enter Tryz.func25, Tryz.ntmps25
  go_wp2_with fail
  rw [← HW.out]
  refine (specReqOk p q W).mono ?_
  rintro e w1 ⟨rfl, b1⟩
  have B1 : Hid (Below w.heap.size w w1) := BW.out.trans (b1.mono BW.out.size)
  have D0 : Hid (Blk w1 w.heap.size _ _) := G0.out.keep b1
  obtain ⟨q0, q1, q2, q3, q4, q5, q6⟩ := D0.out.cells7
  clear b1
  generalize reqOk p q = r1 at HT ⊢
  cases r1 with
  | false =>
    have F : Hid (T = false) := by show _ = _; rw [HT.out]; rfl
    go_wp2_with fail
    go_ret
    exact ⟨ret_bool F.out.symm, B1.out⟩
  | true =>
    go_wp2_with fail
    refine (specExecOk a1 a2 c1 c2 xs ys v k w1 (H1.out.below B1.out) (H2.out.below B1.out) n1 n2 hc1 hc2).mono ?_
    rintro e w2 ⟨rfl, b2⟩
    have B2 : Hid (Below w.heap.size w w2) := B1.out.trans (b2.mono B1.out.size)
    obtain ⟨r0, r1, r2, r3, r4, r5, r6⟩ := (D0.out.keep b2).cells7
    clear b2 q0 q1 q2 q3 q4 q5 q6
    generalize execOk xs ys v k = r2' at HT ⊢
    cases r2' with
    | false =>
      have F : Hid (T = false) := by show _ = _; rw [HT.out]; rfl
      go_wp2_with fail
      go_ret
      exact ⟨ret_bool F.out.symm, B2.out⟩
    | true =>
      have F : Hid (T = (k != 3)) := by show _ = _; rw [HT.out]; rfl
      go_wp2_with fail
      go_ret
      exact ⟨ret_bool F.out.symm, B2.out⟩

set_option maxRecDepth 100000 in
set_option maxHeartbeats 1000000 in
theorem specCertEntryNone (p q : Int) (a1 a2 : Option Addr) (c1 c2 : Nat) (xs ys : List P2) (v k : Int) (w : World) (h1 : Sl w a1 xs) (h2 : Sl w a2 ys) (n1 : xs.length ≤ 2 ^ 40) (n2 : ys.length ≤ 2 ^ 40) :
    Calls Tryz.prog 25 #[.agg #[.bool true, .int .i64 p, .int .i64 q, .slice a1 xs.length c1, .slice a2 ys.length c2, .int .i64 v, .int .i64 k]] w fun e w' => e = .returned (.bool (likeE true true (p, q) (0, 0) xs ys [] [] v k 0 0)) ∧ Below w.heap.size w w' := by
  have H1 : Hid (Sl w a1 xs) := h1
  have H2 : Hid (Sl w a2 ys) := h2
  clear h1 h2
  obtain ⟨W, hW⟩ : ∃ W, W = w.alloc (.cells #[.bool true, .int .i64 p, .int .i64 q, .slice a1 xs.length c1, .slice a2 ys.length c2, .int .i64 v, .int .i64 k] 41) := ⟨_, rfl⟩
  have BW : Hid (Below w.heap.size w W) := by show Below _ _ _; rw [hW]; exact (Below.refl _ _).alloc (Nat.le_refl _) _
  have HW : Hid (W = _) := hW
  clear hW
  have hq := fun w => eqlReq p q 0 0 w
  cases he : eq2 (p, q) (0, 0) with
  | false =>
    have F : Hid (likeE true true (p, q) (0, 0) xs ys [] [] v k 0 0 = false) := likeE_req _ _ _ _ _ _ _ _ he
    rw [he] at hq
    go_enter Tryz.func25, Tryz.ntmps25
    go_wp2_with fail
    go_ret
    exact ⟨ret_bool F.out.symm, by rw [← HW.out]; exact BW.out⟩
  | true =>
    have F : Hid (likeE true true (p, q) (0, 0) xs ys [] [] v k 0 0 = sameRun xs ys [] [] v k 0 0) := likeE_run _ _ _ _ _ _ _ _ rfl he
    rw [he] at hq
    go_enter Tryz.func25, Tryz.ntmps25
    go_wp2_with fail
    rw [← HW.out]
    refine (specExecSame a1 a2 none none c1 c2 0 0 xs ys [] [] v k 0 0 W (H1.out.below BW.out) (H2.out.below BW.out) (.inl rfl) (.inl rfl) n1 n2 (by simp) (by simp)).mono ?_
    rintro e w1 ⟨rfl, b1'⟩
    have B1 : Hid (Below w.heap.size w w1) := BW.out.trans (b1'.mono BW.out.size)
    clear b1'
    generalize sameRun xs ys [] [] v k 0 0 = r at F ⊢
    go_wp2_with fail
    go_ret
    exact ⟨ret_bool F.out.symm, B1.out⟩

theorem specCertEntry (n : Bool) (p q : Int) (a1 a2 : Option Addr) (c1 c2 : Nat) (xs ys : List P2) (v k : Int) (w : World) (h1 : Sl w a1 xs) (h2 : Sl w a2 ys) (n1 : xs.length ≤ 2 ^ 40) (n2 : ys.length ≤ 2 ^ 40) (hc1 : xs.length ≤ c1) (hc2 : ys.length ≤ c2) :
    Calls Tryz.prog 25 #[.agg #[.bool n, .int .i64 p, .int .i64 q, .slice a1 xs.length c1, .slice a2 ys.length c2, .int .i64 v, .int .i64 k]] w fun e w' => e = .returned (.bool (entOk n p q xs ys v k)) ∧ Below w.heap.size w w' := by
  cases n with
  | false => exact specCertEntryRun p q a1 a2 c1 c2 xs ys v k w h1 h2 n1 n2 hc1 hc2
  | true => exact specCertEntryNone p q a1 a2 c1 c2 xs ys v k w h1 h2 n1 n2
end Go.Proofs.YtildonpdmmliaaaGreatDoor.Own

namespace Go.Proofs.YtildonpdmmliaaaGreatDoor.Own
open Go.RowKit
set_option linter.unusedVariables false
set_option linter.unusedSimpArgs false

theorem noneE_none (p q : Int) (xs ys : List P2) (v k : Int) : noneE ⟨true, p, q, xs, ys, v, k⟩ = false := by simp [noneE, likeE]
theorem noneE_req {p q : Int} (n : Bool) (xs ys : List P2) (v k : Int) (h : eq2 (p, q) (0, 0) = false) : noneE ⟨n, p, q, xs, ys, v, k⟩ = false := by simp [noneE, likeE, h]
theorem noneE_run {p q : Int} (xs ys : List P2) (v k : Int) (h : eq2 (p, q) (0, 0) = true) : noneE ⟨false, p, q, xs, ys, v, k⟩ = sameRun xs ys [] [] v k 0 0 := by simp [noneE, likeE, h]

set_option maxRecDepth 100000 in
set_option maxHeartbeats 2000000 in
theorem specVote (m : Int) (n : Bool) (p q : Int) (a1 a2 : Option Addr) (c1 c2 : Nat) (xs ys : List P2) (v k : Int) (w : World) (h1 : Sl w a1 xs) (h2 : Sl w a2 ys) (n1 : xs.length ≤ 2 ^ 40) (n2 : ys.length ≤ 2 ^ 40) (hc1 : xs.length ≤ c1) (hc2 : ys.length ≤ c2) :
    Calls Tryz.prog 46 #[.agg #[.int .i64 m, .bool n, .int .i64 p, .int .i64 q, .slice a1 xs.length c1, .slice a2 ys.length c2, .int .i64 v, .int .i64 k]] w fun e w' => e = .returned (.bool (voteOk (m, ⟨n, p, q, xs, ys, v, k⟩))) ∧ Below w.heap.size w w' := by
  have H1 : Hid (Sl w a1 xs) := h1
  have H2 : Hid (Sl w a2 ys) := h2
  clear h1 h2
  obtain ⟨W, hW⟩ : ∃ W, W = w.alloc (.cells #[.int .i64 m, .bool n, .int .i64 p, .int .i64 q, .slice a1 xs.length c1, .slice a2 ys.length c2, .int .i64 v, .int .i64 k] 56) := ⟨_, rfl⟩
  have BW : Hid (Below w.heap.size w W) := by show Below _ _ _; rw [hW]; exact (Below.refl _ _).alloc (Nat.le_refl _) _
  have G0 : Hid (Blk W w.heap.size #[.int .i64 m, .bool n, .int .i64 p, .int .i64 q, .slice a1 xs.length c1, .slice a2 ys.length c2, .int .i64 v, .int .i64 k] 56) := by show Blk _ _ _ _; rw [hW]; exact Blk.new _ _ _
  have HW : Hid (W = _) := hW
  clear hW
  by_cases hm : m = 0
  · have E : Hid (voteOk (m, ⟨n, p, q, xs, ys, v, k⟩) = noneE ⟨n, p, q, xs, ys, v, k⟩) := by show _ = _; simp [voteOk, hm]
    have k0 : (m == 0) = true := by simpa using hm
    clear hm
    generalize voteOk (m, ⟨n, p, q, xs, ys, v, k⟩) = T at E ⊢
    have hq := fun w => eqlReq p q 0 0 w
    cases n with
    | true =>
      have F : Hid (T = false) := by show _ = _; rw [E.out, noneE_none]
      clear E
      go_enter Tryz.func46, Tryz.ntmps46
      go_wp2_with fail
      go_ret
      exact ⟨ret_bool F.out.symm, by rw [← HW.out]; exact BW.out⟩
    | false =>
      cases he : eq2 (p, q) (0, 0) with
      | false =>
        have F : Hid (T = false) := by show _ = _; rw [E.out, noneE_req _ _ _ _ _ he]
        clear E
        rw [he] at hq
        go_enter Tryz.func46, Tryz.ntmps46
        go_wp2_with fail
        go_ret
        exact ⟨ret_bool F.out.symm, by rw [← HW.out]; exact BW.out⟩
      | true =>
        have F : Hid (T = sameRun xs ys [] [] v k 0 0) := by show _ = _; rw [E.out, noneE_run _ _ _ _ he]
        clear E
        rw [he] at hq
        go_enter Tryz.func46, Tryz.ntmps46
        go_wp2_with fail
        rw [← HW.out]
        refine (specExecSame a1 a2 none none c1 c2 0 0 xs ys [] [] v k 0 0 W (H1.out.below BW.out) (H2.out.below BW.out) (.inl rfl) (.inl rfl) n1 n2 (by simp) (by simp)).mono ?_
        rintro e w1 ⟨rfl, b1'⟩
        have B1 : Hid (Below w.heap.size w w1) := BW.out.trans (b1'.mono BW.out.size)
        clear b1'
        generalize sameRun xs ys [] [] v k 0 0 = r at F ⊢
        go_wp2_with fail
        go_ret
        exact ⟨ret_bool F.out.symm, B1.out⟩
  · have E : Hid (voteOk (m, ⟨n, p, q, xs, ys, v, k⟩) = (isBal m && entOk n p q xs ys v k)) := by show _ = _; simp [voteOk, hm, rightE]
    have k0 : (m == 0) = false := by simpa using hm
    clear hm
    generalize voteOk (m, ⟨n, p, q, xs, ys, v, k⟩) = T at E ⊢
    go_enter Tryz.func46, Tryz.ntmps46
    go_wp2_with fail
    rw [← HW.out]
    refine (specBal m W).mono ?_
    rintro e w1 ⟨rfl, rfl⟩
    obtain ⟨q0, q1, q2, q3, q4, q5, q6, q7⟩ := G0.out.cells8
    generalize isBal m = r at E ⊢
    cases r with
    | false =>
      have F : Hid (T = false) := by show _ = _; rw [E.out]; rfl
      go_wp2_with fail
      go_ret
      exact ⟨ret_bool F.out.symm, BW.out⟩
    | true =>
      go_wp2_with fail
      refine (specCertEntry n p q a1 a2 c1 c2 xs ys v k w1 (H1.out.below BW.out) (H2.out.below BW.out) n1 n2 hc1 hc2).mono ?_
      rintro e w2 ⟨rfl, b2⟩
      have B2 : Hid (Below w.heap.size w w2) := BW.out.trans (b2.mono BW.out.size)
      clear b2 q0 q1 q2 q3 q4 q5 q6 q7
      generalize entOk n p q xs ys v k = r2 at E ⊢
      have F : Hid (T = r2) := by show _ = _; rw [E.out]; rfl
      go_wp2_with fail
      go_ret
      exact ⟨ret_bool F.out.symm, B2.out⟩
end Go.Proofs.YtildonpdmmliaaaGreatDoor.Own

namespace Go.Proofs.YtildonpdmmliaaaGreatDoor.Own
open Go.RowKit Go.Sort
set_option linter.unusedVariables false
set_option linter.unusedSimpArgs false

set_option maxRecDepth 100000 in
set_option maxHeartbeats 2000000 in
theorem specVotes (a : Option Addr) (c : Nat) (vs : List VM) (w : World) (h : SlV w a vs) (hn : vs.length ≤ 2 ^ 40) (hl : VLs vs) :
    Calls Tryz.prog 27 #[.slice a vs.length c] w fun e w' => e = .returned (.bool (votesOk (bodies vs))) ∧ Below w.heap.size w w' := by
  have HS : Hid (SlV w a vs) := h
  have HL : Hid (VLs vs) := hl
  clear h hl
  have E1 : Hid (40 < vs.length → votesOk (bodies vs) = false) := fun h => by unfold votesOk; rw [bodies_len]; simp; intro h2; omega
  have E2 : Hid (∀ i, i < vs.length → voteOk (vs.getD i v0).body = false → votesOk (bodies vs) = false) := fun i hi h => by
    unfold votesOk
    rw [allV_not (0, e0) (i := i) (by rw [bodies_len]; exact hi) (by rw [bodies_getD]; exact h), Bool.and_false]
  have E3 : Hid (vs.length ≤ 40 → (∀ i, i < vs.length → voteOk (vs.getD i v0).body = true) → votesOk (bodies vs) = true) := fun h h2 => by
    unfold votesOk
    rw [bodies_len, allV_at (0, e0) (fun i hi => by rw [bodies_getD]; exact h2 i (by rw [bodies_len] at hi; exact hi))]
    simp [h]
  generalize votesOk (bodies vs) = T at E1 E2 E3 ⊢
  by_cases h40 : 40 < vs.length
  · have F : Hid (T = false) := E1.out h40
    have hi : (vs.length : Int) > 40 := by omega
    go_enter Tryz.func27, Tryz.ntmps27
    go_wp2_with fail
    go_ret
    exact ⟨ret_bool F.out.symm, Below.refl _ _⟩
  · have hi : ¬ (vs.length : Int) > 40 := by omega
    go_enter Tryz.func27, Tryz.ntmps27
    go_wp2_with fail
    go_loopw [3] (fun i wr => ∃ k : Nat, k ≤ vs.length ∧ i = .int .i64 k ∧ Hid (∀ j, j < k → voteOk (vs.getD j v0).body = true) ∧ Hid (Below w.heap.size w wr)) (fun i _ => vs.length - (intOf i).toNat)
    case atStart => exact ⟨0, Nat.zero_le _, rfl, fun j hj => by omega, Below.refl _ _⟩
    case round =>
      obtain ⟨k, hk, rfl, HA, KB⟩ := hrel
      by_cases hlt : k < vs.length
      · have hki : (k : Int) < (vs.length : Int) := by omega
        rcases HS.out.below KB.out with hh | ⟨b, off, rfl, _, hh⟩
        · rw [hh] at hlt; simp at hlt
        obtain ⟨⟨d0, d1, d2, d3, d4, d5, d6, d7⟩, s1, s2⟩ := hh k hlt
        have NX : Hid (∀ y, voteOk (vs.getD k v0).body = y → (y = false → T = false) ∧ (y = true → ∀ j, j < k + 1 → voteOk (vs.getD j v0).body = true)) := fun y hy => ⟨fun h => E2.out k hlt (by rw [hy, h]), fun h j hj => by
          by_cases e : j = k
          · subst e; rw [hy, h]
          · exact HA.out j (by omega)⟩
        have LX := HL.out k hlt
        have SX : Hid (Sl wr (vs.getD k v0).a1 (vs.getD k v0).b.xs ∧ Sl wr (vs.getD k v0).a2 (vs.getD k v0).b.ys) := ⟨s1, s2⟩
        clear hh s1 s2
        obtain ⟨x, hx⟩ : ∃ x, x = vs.getD k v0 := ⟨_, rfl⟩
        rw [← hx] at d0 d1 d2 d3 d4 d5 d6 d7 LX SX
        have NX2 : Hid (∀ y, voteOk x.body = y → (y = false → T = false) ∧ (y = true → ∀ j, j < k + 1 → voteOk (vs.getD j v0).body = true)) := fun y hy => NX.out y (by rw [← hx]; exact hy)
        clear NX hx
        obtain ⟨xbal, ⟨xn, xp, xq, xxs, xys, xv, xk⟩, xa1, xc1, xa2, xc2⟩ := x
        simp only [VM.body] at d0 d1 d2 d3 d4 d5 d6 d7 LX SX NX2
        go_wp2_with fail
        refine (specVote xbal xn xp xq xa1 xa2 xc1 xc2 xxs xys xv xk wr SX.out.1 SX.out.2 LX.1 LX.2.1 LX.2.2.1 LX.2.2.2).mono ?_
        rintro e w1 ⟨rfl, hw⟩
        have B1 : Hid (Below w.heap.size w w1) := KB.out.trans (hw.mono KB.out.size)
        have N3 := NX2.out _ rfl
        clear hw NX2 d0 d1 d2 d3 d4 d5 d6 d7
        generalize voteOk (xbal, ⟨xn, xp, xq, xxs, xys, xv, xk⟩) = y at N3 ⊢
        cases y with
        | false =>
          have F : Hid (T = false) := N3.1 rfl
          clear N3
          go_wp2_with fail
          go_ret
          exact ⟨ret_bool F.out.symm, B1.out⟩
        | true =>
          have F : Hid (∀ j, j < k + 1 → voteOk (vs.getD j v0).body = true) := N3.2 rfl
          clear N3
          go_wp2_with fail
          go_roundw
          case rel => exact ⟨k + 1, by omega, by go_num, F.out, B1.out⟩
          case measure => simp [intOf]; omega
      · have hki : ¬ (k : Int) < (vs.length : Int) := by omega
        have F : Hid (T = true) := E3.out (by omega) (fun i hi => HA.out i (by omega))
        go_wp2_with fail
        go_ret
        exact ⟨ret_bool F.out.symm, KB.out⟩
end Go.Proofs.YtildonpdmmliaaaGreatDoor.Own
