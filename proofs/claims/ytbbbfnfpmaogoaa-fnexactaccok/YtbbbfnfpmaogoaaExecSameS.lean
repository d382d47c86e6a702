/-
  Own text: what spec.ExecSame does.
-/
import Derived.Test.YtbbbfnfpmaogoaaEqualR
import Derived.Test.YtbbbfnfpmaogoaaEqualP
import Derived.Deep.Cut
import Derived.Deep.CutRange
namespace Go.Proofs.Ytbbbfnfpmaogoaa.Own
open Go.RowKit
set_option linter.unusedVariables false
set_option linter.unusedSimpArgs false

set_option maxRecDepth 100000 in
set_option maxHeartbeats 4000000 in
theorem specExecSame (a1 a2 b1 b2 : Option Addr) (c1 c2 d1 d2 : Nat) (xs ys zs us : List P2) (v k v' k' : Int) (w : World) (h1 : Sl w a1 xs) (h2 : Sl w a2 ys) (h3 : Sl w b1 zs) (h4 : Sl w b2 us)
    (n1 : xs.length ≤ 2 ^ 40) (n2 : ys.length ≤ 2 ^ 40) (n3 : zs.length ≤ 2 ^ 40) (n4 : us.length ≤ 2 ^ 40) :
    Calls Try.prog 125 #[.agg #[.slice a1 xs.length c1, .slice a2 ys.length c2, .int .i64 v, .int .i64 k], .agg #[.slice b1 zs.length d1, .slice b2 us.length d2, .int .i64 v', .int .i64 k']] w fun e w' => e = .returned (.bool (sameRun xs ys zs us v k v' k')) ∧ Below w.heap.size w w' := by
  have H1 : Hid (Sl w a1 xs) := h1
  have H2 : Hid (Sl w a2 ys) := h2
  have H3 : Hid (Sl w b1 zs) := h3
  have H4 : Hid (Sl w b2 us) := h4
  clear h1 h2 h3 h4
  have E : Hid (sameRun xs ys zs us v k v' k' = (k == k' && v == v' && xs == zs && ys == us)) := rfl
  obtain ⟨W, hW⟩ : ∃ W, W = (w.alloc (.cells #[.slice a1 xs.length c1, .slice a2 ys.length c2, .int .i64 v, .int .i64 k] 32)).alloc (.cells #[.slice b1 zs.length d1, .slice b2 us.length d2, .int .i64 v', .int .i64 k'] 32) := ⟨_, rfl⟩
  have hbW : Hid (Below w.heap.size w W) := by
    show Below _ _ _
    rw [hW]; exact ((Below.refl _ _).alloc (Nat.le_refl _) _).alloc (by simp) _
  have hsW : Hid (W.heap.size = w.heap.size + 2) := by show _ = _; rw [hW]; simp
  have g0 : Hid (W.heap[w.heap.size]? = some (.cells #[.slice a1 xs.length c1, .slice a2 ys.length c2, .int .i64 v, .int .i64 k] 32 (0, 0))) := by
    show _ = _
    rw [hW]; exact heap_new1 _ _ _
  have g1 : Hid (W.heap[w.heap.size + 1]? = some (.cells #[.slice b1 zs.length d1, .slice b2 us.length d2, .int .i64 v', .int .i64 k'] 32 (0, 0))) := by
    show _ = _
    rw [hW]; exact heap_new2 _ _ _
  have CC : Hid (∀ wr, Below W.heap.size W wr → (wr.cell? ⟨w.heap.size, 0, none⟩ = some (.slice a1 xs.length c1) ∧ wr.cell? ⟨w.heap.size + 1, 0, none⟩ = some (.slice b1 zs.length d1)) ∧ wr.cell? ⟨w.heap.size, 1, none⟩ = some (.slice a2 ys.length c2) ∧ wr.cell? ⟨w.heap.size + 1, 1, none⟩ = some (.slice b2 us.length d2)) := by
    intro wr hB
    have e0 : ∀ o, wr.cell? ⟨w.heap.size, o, none⟩ = W.cell? ⟨w.heap.size, o, none⟩ := fun o => hB.cell (p := ⟨w.heap.size, o, none⟩) (by show w.heap.size < _; have := hsW.out; omega)
    have e1 : ∀ o, wr.cell? ⟨w.heap.size + 1, o, none⟩ = W.cell? ⟨w.heap.size + 1, o, none⟩ := fun o => hB.cell (p := ⟨w.heap.size + 1, o, none⟩) (by show w.heap.size + 1 < _; have := hsW.out; omega)
    rw [e0, e0, e1, e1, cell_heap g0.out, cell_heap g0.out, cell_heap g1.out, cell_heap g1.out]
    exact ⟨⟨rfl, rfl⟩, rfl, rfl⟩
  have HW : Hid (W = _) := hW
  clear hW
  obtain ⟨bad, hbad⟩ : ∃ b, b = (v != v' || (k != k' || ((xs.length : Int) != (zs.length : Int) || (ys.length : Int) != (us.length : Int)))) := ⟨_, rfl⟩
  have HBAD : Hid (bad = (v != v' || (k != k' || ((xs.length : Int) != (zs.length : Int) || (ys.length : Int) != (us.length : Int))))) := hbad
  clear hbad
  go_enter Try.func125, Try.ntmps125
  go_upto_region 1 with fail
  go_cut [36] from 7 to 36 (fun c wx => c = .bool bad ∧ wx = W)
  case first =>
    cases e1 : (v != v') with
    | true =>
      go_wp2_with fail
      go_meet
      exact ⟨by rw [HBAD.out, e1]; rfl, HW.out.symm⟩
    | false =>
      cases e2 : (k != k') with
      | true =>
        go_wp2_with fail
        go_meet
        exact ⟨by rw [HBAD.out, e1, e2]; rfl, HW.out.symm⟩
      | false =>
        cases e3 : ((xs.length : Int) != (zs.length : Int)) with
        | true =>
          go_wp2_with fail
          go_meet
          exact ⟨by rw [HBAD.out, e1, e2, e3]; rfl, HW.out.symm⟩
        | false =>
          go_wp2_with fail
          go_meet
          exact ⟨by rw [HBAD.out, e1, e2, e3]; rfl, HW.out.symm⟩
  case rest =>
    obtain ⟨rfl, hwc⟩ := hcut
    have hwc' := hwc.symm
    subst hwc'
    clear hwc
    cases bad with
    | true =>
      have F : Hid (sameRun xs ys zs us v k v' k' = false) := by
        show _ = _
        rw [Bool.eq_false_iff, E.out]
        intro h
        simp only [Bool.and_eq_true, beq_iff_eq] at h
        obtain ⟨⟨⟨rfl, rfl⟩, rfl⟩, rfl⟩ := h
        have := HBAD.out
        simp at this
      go_wp2_with fail
      go_ret
      exact ⟨ret_bool F.out.symm, hbW.out⟩
    | false =>
      have HE : Hid (v = v' ∧ k = k' ∧ xs.length = zs.length ∧ ys.length = us.length) := by
        have := HBAD.out.symm
        simp only [Bool.or_eq_false_iff, bne_eq_false_iff_eq] at this
        exact ⟨this.1, this.2.1, by omega, by omega⟩
      have E2 : Hid (sameRun xs ys zs us v k v' k' = (xs == zs && ys == us)) := by show _ = _; rw [E.out]; simp [HE.out.1, HE.out.2.1]
      clear HBAD E
      obtain ⟨⟨q0, q1⟩, _⟩ := CC.out W (Below.refl _ _)
      go_wp2_with fail
      clear q0 q1
      go_loopw [5] (fun i wr => ∃ j : Nat, j ≤ xs.length ∧ i = .int .i64 j ∧ Hid (xs.take j = zs.take j) ∧ Below W.heap.size W wr) (fun i _ => xs.length - (intOf i).toNat)
      case atStart => exact ⟨0, Nat.zero_le _, rfl, rfl, Below.refl _ _⟩
      case round =>
        obtain ⟨j, hj, rfl, hA, hB⟩ := hrel
        have HB : Hid (Below W.heap.size W wr) := hB
        obtain ⟨⟨q0, q1⟩, q2, q3⟩ := CC.out wr hB
        by_cases hlt : j < xs.length
        · have hlt2 : j < zs.length := by rw [← HE.out.2.2.1]; exact hlt
          rcases H1.out with h | ⟨b1', o1, rfl, h1⟩
          · subst h; simp at hlt
          rcases H3.out with h | ⟨b2', o2, rfl, h2⟩
          · subst h; simp at hlt2
          have H1' : Hid (BoxAt wr b1' o1 xs) := (h1.below hbW.out).below hB
          have H2' : Hid (BoxAt wr b2' o2 zs) := (h2.below hbW.out).below hB
          clear h1 h2 hB
          have HT : Hid ((xs.take (j + 1) = zs.take (j + 1)) ↔ (xs.getD j (0, 0) = zs.getD j (0, 0))) := by
            unfold Hid; rw [take_succ_eqG (0, 0) hlt hlt2]; exact ⟨fun h => h.2, fun h => ⟨hA, h⟩⟩
          obtain ⟨p, hp⟩ : ∃ p, p = xs.getD j (0, 0) := ⟨_, rfl⟩
          obtain ⟨q, hq⟩ : ∃ q, q = zs.getD j (0, 0) := ⟨_, rfl⟩
          obtain ⟨ca, cb⟩ := H1'.out.2 j hlt
          obtain ⟨da, db⟩ := H2'.out.2 j hlt2
          rw [← hp] at ca cb
          rw [← hq] at da db
          have HP : Hid (p = xs.getD j (0, 0)) := hp
          have HQ : Hid (q = zs.getD j (0, 0)) := hq
          clear hp hq
          obtain ⟨p1, p2⟩ := p
          obtain ⟨r1, r2⟩ := q
          have hne := fun w => neqRead p1 p2 r1 r2 w
          cases hpq : eq2 (p1, p2) (r1, r2) with
          | true =>
            have N : Hid (xs.take (j + 1) = zs.take (j + 1)) := by
              show _ = _
              apply HT.out.2
              rw [← HP.out, ← HQ.out]
              exact (eq2_iff _ _).1 hpq
            rw [hpq] at hne
            clear HT
            go_wp2
            go_quiet (fail)
            go_wp2
            go_roundw
            case rel => exact ⟨j + 1, by omega, by go_num, N, below_drewN HB.out _⟩
            case measure => simp [intOf]; omega
          | false =>
            have F : Hid ((xs == zs) = false) := by
              show _ = _
              apply ne_of_getDG (k := j) (0, 0)
              rw [← HP.out, ← HQ.out]
              exact (eq2_false _ _).1 hpq
            rw [hpq] at hne
            clear HT
            go_wp2
            go_quiet (fail)
            go_wp2
            go_ret
            exact ⟨ret_bool (by rw [E2.out, F.out]; rfl), below_drewN (hbW.out.trans (HB.out.mono hbW.out.size)) _⟩
        · have HA : Hid ((xs == zs) = true) := by
            show _ = _
            have h1 : j = xs.length := by omega
            have h := hA.out
            subst h1
            rw [List.take_length] at h
            have h3 := HE.out.2.2.1
            rw [List.take_of_length_le (by omega)] at h
            simp [h]
          clear hB hA
          go_wp2_with fail
          clear q0 q1 q2 q3 hlt
          go_loopw [6] (fun i ws => ∃ j : Nat, j ≤ ys.length ∧ i = .int .i64 j ∧ Hid (ys.take j = us.take j) ∧ Below W.heap.size W ws) (fun i _ => ys.length - (intOf i).toNat)
          case atStart => exact ⟨0, Nat.zero_le _, rfl, rfl, HB.out⟩
          case round =>
            clear HB
            obtain ⟨m, hm, rfl, hA, hB⟩ := hrel
            have HB : Hid (Below W.heap.size W wr) := hB
            obtain ⟨_, q2, q3⟩ := CC.out wr hB
            by_cases hlt : m < ys.length
            · have hlt2 : m < us.length := by rw [← HE.out.2.2.2]; exact hlt
              rcases H2.out with h | ⟨b1', o1, rfl, h1⟩
              · subst h; simp at hlt
              rcases H4.out with h | ⟨b2', o2, rfl, h2⟩
              · subst h; simp at hlt2
              have H1' : Hid (BoxAt wr b1' o1 ys) := (h1.below hbW.out).below hB
              have H2' : Hid (BoxAt wr b2' o2 us) := (h2.below hbW.out).below hB
              clear h1 h2 hB
              have HT : Hid ((ys.take (m + 1) = us.take (m + 1)) ↔ (ys.getD m (0, 0) = us.getD m (0, 0))) := by
                unfold Hid; rw [take_succ_eqG (0, 0) hlt hlt2]; exact ⟨fun h => h.2, fun h => ⟨hA, h⟩⟩
              obtain ⟨p, hp⟩ : ∃ p, p = ys.getD m (0, 0) := ⟨_, rfl⟩
              obtain ⟨q, hq⟩ : ∃ q, q = us.getD m (0, 0) := ⟨_, rfl⟩
              obtain ⟨ca, cb⟩ := H1'.out.2 m hlt
              obtain ⟨da, db⟩ := H2'.out.2 m hlt2
              rw [← hp] at ca cb
              rw [← hq] at da db
              have HP : Hid (p = ys.getD m (0, 0)) := hp
              have HQ : Hid (q = us.getD m (0, 0)) := hq
              clear hp hq
              obtain ⟨p1, p2⟩ := p
              obtain ⟨r1, r2⟩ := q
              have hne := fun w => neqPut p1 p2 r1 r2 w
              cases hpq : eq2 (p1, p2) (r1, r2) with
              | true =>
                have N : Hid (ys.take (m + 1) = us.take (m + 1)) := by
                  show _ = _
                  apply HT.out.2
                  rw [← HP.out, ← HQ.out]
                  exact (eq2_iff _ _).1 hpq
                rw [hpq] at hne
                clear HT
                go_wp2
                go_quiet (fail)
                go_wp2
                go_roundw
                case rel => exact ⟨m + 1, by omega, by go_num, N, below_drewN HB.out _⟩
                case measure => simp [intOf]; omega
              | false =>
                have F : Hid ((ys == us) = false) := by
                  show _ = _
                  apply ne_of_getDG (k := m) (0, 0)
                  rw [← HP.out, ← HQ.out]
                  exact (eq2_false _ _).1 hpq
                rw [hpq] at hne
                clear HT
                go_wp2
                go_quiet (fail)
                go_wp2
                go_ret
                exact ⟨ret_bool (by rw [E2.out, F.out]; simp), below_drewN (hbW.out.trans (HB.out.mono hbW.out.size)) _⟩
            · have HA2 : Hid ((ys == us) = true) := by
                show _ = _
                have h1 : m = ys.length := by omega
                have h := hA.out
                subst h1
                rw [List.take_length] at h
                have h3 := HE.out.2.2.2
                rw [List.take_of_length_le (by omega)] at h
                simp [h]
              clear hB hA
              go_wp2
              go_ret
              exact ⟨ret_bool (by rw [E2.out, HA.out, HA2.out]; rfl), hbW.out.trans (HB.out.mono hbW.out.size)⟩
end Go.Proofs.Ytbbbfnfpmaogoaa.Own
