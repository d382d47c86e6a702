/-
  Own text: what impl.CertSame and spec.CertSame do.
-/
import Derived.Test.YtgcencilgpilaaaEqualD
import Derived.Test.YtgcencilgpilaaaBlk
import Derived.Test.YtgcencilgpilaaaSame
import Derived.Deep.Cut
import Derived.Deep.CutRange
namespace Go.Proofs.Ytgcencilgpilaaa.Own
open Go.RowKit
set_option linter.unusedVariables false
set_option linter.unusedSimpArgs false

/-- Two states are one. -/
def sameSt (z z' : Int) (bs bs' : List P2) (ds ds' : List Q4) : Bool := z == z' && bs == bs' && ds == ds'

set_option maxRecDepth 100000 in
set_option maxHeartbeats 1000000 in
theorem implCertSame (z z' : Int) (a1 a2 b1 b2 : Option Addr) (c1 c2 d1 d2 : Nat) (bs bs' : List P2) (ds ds' : List Q4) (w : World) (h1 : Sl w a1 bs) (h2 : Sl4 w a2 ds) (h3 : Sl w b1 bs') (h4 : Sl4 w b2 ds')
    (n1 : bs.length ≤ 2 ^ 40) (n2 : ds.length ≤ 2 ^ 40) (n4 : ds'.length ≤ 2 ^ 40) (hc1 : bs.length ≤ c1) (hd1 : bs'.length ≤ d1) (n3 : bs'.length ≤ 2 ^ 40) :
    Calls Try.prog 54 #[.agg #[.int .i64 z, .slice a1 bs.length c1, .slice a2 ds.length c2], .agg #[.int .i64 z', .slice b1 bs'.length d1, .slice b2 ds'.length d2]] w fun e w' => e = .returned (.bool (sameSt z z' bs bs' ds ds')) ∧ Below w.heap.size w w' := by
  have H1 : Hid (Sl w a1 bs) := h1
  have H2 : Hid (Sl4 w a2 ds) := h2
  have H3 : Hid (Sl w b1 bs') := h3
  have H4 : Hid (Sl4 w b2 ds') := h4
  clear h1 h2 h3 h4
  have E : Hid (sameSt z z' bs bs' ds ds' = (z == z' && bs == bs' && ds == ds')) := rfl
  generalize sameSt z z' bs bs' ds ds' = T at E ⊢
  obtain ⟨W, hW⟩ : ∃ W, W = (w.alloc (.cells #[.int .i64 z, .slice a1 bs.length c1, .slice a2 ds.length c2] 70)).alloc (.cells #[.int .i64 z', .slice b1 bs'.length d1, .slice b2 ds'.length d2] 70) := ⟨_, rfl⟩
  have BW : Hid (Below w.heap.size w W) := by
    show Below _ _ _
    rw [hW]; exact ((Below.refl _ _).alloc (Nat.le_refl _) _).alloc (by simp) _
  have G0 : Hid (Blk W w.heap.size #[.int .i64 z, .slice a1 bs.length c1, .slice a2 ds.length c2] 70) := by show Blk _ _ _ _; rw [hW]; exact (Blk.new _ _ _).alloc _
  have G1 : Hid (Blk W (w.heap.size + 1) #[.int .i64 z', .slice b1 bs'.length d1, .slice b2 ds'.length d2] 70) := by show Blk _ _ _ _; rw [hW]; exact Blk.new2 _ _ _ _
  have HW : Hid (W = _) := hW
  clear hW
  cases hz : (z == z') with
  | false =>
    have F : Hid (T = false) := by show _ = _; rw [E.out, hz]; rfl
    go_enter Try.func54, Try.ntmps54
    go_wp2_with fail
    go_ret
    exact ⟨ret_bool F.out.symm, by rw [← HW.out]; exact BW.out⟩
  | true =>
    have E2 : Hid (T = (bs == bs' && ds == ds')) := by show _ = _; rw [E.out, hz]; rfl
    go_enter Try.func54, Try.ntmps54
    go_wp2_with fail
    rw [← HW.out]
    refine (implSame a1 b1 c1 d1 bs bs' W (H1.out.below BW.out) (H3.out.below BW.out) hc1 hd1 (by omega)).mono ?_
    rintro e w1 ⟨rfl, b1'⟩
    have B1 : Hid (Below w.heap.size w w1) := BW.out.trans (b1'.mono BW.out.size)
    obtain ⟨q0, q1, q2⟩ := (G0.out.keep b1').cells3
    obtain ⟨r0, r1, r2⟩ := (G1.out.keep b1').cells3
    clear b1'
    generalize (bs == bs') = x at E2 ⊢
    cases x with
    | false =>
      have F : Hid (T = false) := by show _ = _; rw [E2.out]; rfl
      go_wp2_with fail
      go_ret
      exact ⟨ret_bool F.out.symm, B1.out⟩
    | true =>
      have F : Hid (T = (ds == ds')) := by show _ = _; rw [E2.out]; rfl
      go_wp2_with fail
      refine (equalDone a2 b2 c2 d2 ds ds' w1 (H2.out.below B1.out) (H4.out.below B1.out) n2 n4).mono ?_
      rintro e w2 ⟨rfl, b2'⟩
      have B2 : Hid (Below w.heap.size w w2) := B1.out.trans (b2'.mono B1.out.size)
      clear b2'
      generalize (ds == ds') = y at F ⊢
      go_wp2_with fail
      go_ret
      exact ⟨ret_bool F.out.symm, B2.out⟩

set_option maxRecDepth 100000 in
set_option maxHeartbeats 2000000 in
theorem specCertSame (z z' : Int) (a1 a2 b1 b2 : Option Addr) (c1 c2 d1 d2 : Nat) (bs bs' : List P2) (ds ds' : List Q4) (w : World) (h1 : Sl w a1 bs) (h2 : Sl4 w a2 ds) (h3 : Sl w b1 bs') (h4 : Sl4 w b2 ds')
    (n1 : bs.length ≤ 2 ^ 40) (n2 : ds.length ≤ 2 ^ 40) (n3 : bs'.length ≤ 2 ^ 40) (n4 : ds'.length ≤ 2 ^ 40) :
    Calls Try.prog 53 #[.agg #[.int .i64 z, .slice a1 bs.length c1, .slice a2 ds.length c2], .agg #[.int .i64 z', .slice b1 bs'.length d1, .slice b2 ds'.length d2]] w fun e w' => e = .returned (.bool (sameSt z z' bs bs' ds ds')) ∧ Below w.heap.size w w' := by
  have H1 : Hid (Sl w a1 bs) := h1
  have H2 : Hid (Sl4 w a2 ds) := h2
  have H3 : Hid (Sl w b1 bs') := h3
  have H4 : Hid (Sl4 w b2 ds') := h4
  clear h1 h2 h3 h4
  have E : Hid (sameSt z z' bs bs' ds ds' = (z == z' && bs == bs' && ds == ds')) := rfl
  generalize sameSt z z' bs bs' ds ds' = T at E ⊢
  obtain ⟨W, hW⟩ : ∃ W, W = (w.alloc (.cells #[.int .i64 z, .slice a1 bs.length c1, .slice a2 ds.length c2] 70)).alloc (.cells #[.int .i64 z', .slice b1 bs'.length d1, .slice b2 ds'.length d2] 70) := ⟨_, rfl⟩
  have BW : Hid (Below w.heap.size w W) := by
    show Below _ _ _
    rw [hW]; exact ((Below.refl _ _).alloc (Nat.le_refl _) _).alloc (by simp) _
  have G0 : Hid (Blk W w.heap.size #[.int .i64 z, .slice a1 bs.length c1, .slice a2 ds.length c2] 70) := by show Blk _ _ _ _; rw [hW]; exact (Blk.new _ _ _).alloc _
  have G1 : Hid (Blk W (w.heap.size + 1) #[.int .i64 z', .slice b1 bs'.length d1, .slice b2 ds'.length d2] 70) := by show Blk _ _ _ _; rw [hW]; exact Blk.new2 _ _ _ _
  have HW : Hid (W = _) := hW
  clear hW
  cases hz : (z != z') with
  | true =>
    have F : Hid (T = false) := by
      show _ = _
      have : (z == z') = false := by simpa using hz
      rw [E.out, this]; rfl
    go_enter Try.func53, Try.ntmps53
    go_wp2_with fail
    go_ret
    exact ⟨ret_bool F.out.symm, by rw [← HW.out]; exact BW.out⟩
  | false =>
    have E2 : Hid (T = (bs == bs' && ds == ds')) := by
      show _ = _
      have : (z == z') = true := by simpa using hz
      rw [E.out, this]; rfl
    go_enter Try.func53, Try.ntmps53
    go_wp2_with fail
    rw [← HW.out]
    refine (specSame a1 b1 c1 d1 bs bs' W (H1.out.below BW.out) (H3.out.below BW.out) n1 n3).mono ?_
    rintro e w1 ⟨rfl, b1'⟩
    have B1 : Hid (Below w.heap.size w w1) := BW.out.trans (b1'.mono BW.out.size)
    have D0 : Hid (Blk w1 w.heap.size _ _) := G0.out.keep b1'
    have D1 : Hid (Blk w1 (w.heap.size + 1) _ _) := G1.out.keep b1'
    obtain ⟨q0, q1, q2⟩ := D0.out.cells3
    obtain ⟨r0, r1, r2⟩ := D1.out.cells3
    clear b1'
    generalize (bs == bs') = x at E2 ⊢
    cases x with
    | false =>
      have F : Hid (T = false) := by show _ = _; rw [E2.out]; rfl
      go_wp2_with fail
      go_ret
      exact ⟨ret_bool F.out.symm, B1.out⟩
    | true =>
      have E3 : Hid (T = (ds == ds')) := by show _ = _; rw [E2.out]; rfl
      by_cases hl : ds.length = ds'.length
      · have hl' : ((ds.length : Int) != (ds'.length : Int)) = false := by simp [hl]
        have Hl : Hid (ds.length = ds'.length) := hl
        clear hl
        go_wp2_with fail
        clear q0 q1 q2 r0 r1 r2
        go_loopw [5] (fun i wr => ∃ k : Nat, k ≤ ds.length ∧ i = .int .i64 k ∧ Hid (ds.take k = ds'.take k) ∧ Below w1.heap.size w1 wr) (fun i _ => ds.length - (intOf i).toNat)
        case atStart => exact ⟨0, Nat.zero_le _, rfl, rfl, Below.refl _ _⟩
        case round =>
          obtain ⟨k, hk, rfl, hE, hB⟩ := hrel
          obtain ⟨q0, q1, q2⟩ := (D0.out.keep hB).cells3
          obtain ⟨r0, r1, r2⟩ := (D1.out.keep hB).cells3
          by_cases hlt : k < ds.length
          · have hlt2 : k < ds'.length := by rw [← Hl.out]; exact hlt
            rcases (H2.out.below B1.out).below hB with h | ⟨b1, o1, rfl, h1⟩
            · subst h; simp at hlt
            rcases (H4.out.below B1.out).below hB with h | ⟨b2, o2, rfl, h2⟩
            · subst h; simp at hlt2
            have HT : Hid ((ds.take (k + 1) = ds'.take (k + 1)) ↔ (ds.getD k Own.q0 = ds'.getD k Own.q0)) := by
              unfold Hid; rw [take_succ_eqG Own.q0 hlt hlt2]; exact ⟨fun h => h.2, fun h => ⟨hE, h⟩⟩
            obtain ⟨p, hp⟩ : ∃ p, p = ds.getD k Own.q0 := ⟨_, rfl⟩
            obtain ⟨q, hq⟩ : ∃ q, q = ds'.getD k Own.q0 := ⟨_, rfl⟩
            obtain ⟨ca, cb, cc, cd⟩ := h1.2 k hlt
            obtain ⟨da, db, dc, dd⟩ := h2.2 k hlt2
            rw [← hp] at ca cb cc cd
            rw [← hq] at da db dc dd
            have HP : Hid (p = ds.getD k Own.q0) := hp
            have HQ : Hid (q = ds'.getD k Own.q0) := hq
            clear hp hq h1 h2
            obtain ⟨p1, p2, p3, p4⟩ := p
            obtain ⟨q1', q2', q3', q4'⟩ := q
            have HB : Hid (Below w1.heap.size w1 wr) := hB
            clear hB
            have hne := fun w => neqDone p1 p2 p3 p4 q1' q2' q3' q4' w
            by_cases hpq : eqQ (p1, p2, p3, p4) (q1', q2', q3', q4') = true
            · have N : Hid (ds.take (k + 1) = ds'.take (k + 1)) := by
                show _ = _
                apply HT.out.2
                rw [← HP.out, ← HQ.out]
                exact (eqQ_iff _ _).1 hpq
              rw [hpq] at hne
              go_wp2
              go_quiet (fail)
              go_wp2
              go_roundw
              case rel => exact ⟨k + 1, by omega, by go_num, N, below_drewN HB.out _⟩
              case measure => simp [intOf]; omega
            · have hpq' : eqQ (p1, p2, p3, p4) (q1', q2', q3', q4') = false := by simpa using hpq
              have F : Hid (T = false) := by
                show _ = _
                rw [E3.out]
                apply ne_of_getDG (k := k) Own.q0
                rw [← HP.out, ← HQ.out]
                exact (eqQ_false _ _).1 hpq'
              clear hpq
              rw [hpq'] at hne
              go_wp2
              go_quiet (fail)
              go_wp2
              go_ret
              exact ⟨ret_bool F.out.symm, B1.out.trans ((below_drewN HB.out _).mono B1.out.size)⟩
          · have F : Hid (T = true) := by
              show _ = _
              have : k = ds.length := by omega
              subst this
              have h := hE
              unfold Hid at h
              rw [List.take_length] at h
              have h3 := Hl.out
              rw [List.take_of_length_le (by omega)] at h
              rw [E3.out]; simp [h]
            go_wp2
            go_ret
            exact ⟨ret_bool F.out.symm, B1.out.trans (hB.mono B1.out.size)⟩
      · have hl' : ((ds.length : Int) != (ds'.length : Int)) = true := by simp; omega
        have F : Hid (T = false) := by
          show _ = _
          rw [E3.out, beq_eq_false_iff_ne]
          intro h; exact hl (by rw [h])
        go_wp2_with fail
        go_ret
        exact ⟨ret_bool F.out.symm, B1.out⟩
end Go.Proofs.Ytgcencilgpilaaa.Own
