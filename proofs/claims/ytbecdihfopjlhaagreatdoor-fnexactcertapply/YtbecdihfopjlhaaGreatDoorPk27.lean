/-
  Own texts, bundled: StOkS.
-/
import Derived.Test.YtbecdihfopjlhaaGreatDoorPk6
import Derived.Test.YtbecdihfopjlhaaGreatDoorPk26
import Derived.Lib.QuietBelow
import Derived.BigQuiet
import Derived.Deep.Cut
import Derived.Deep.CutRange
namespace Go.Proofs.YtbecdihfopjlhaaGreatDoor.Own
open Go.RowKit Go.Sort
set_option linter.unusedVariables false
set_option linter.unusedSimpArgs false

theorem codeOk_raw (c v : Int) : codeOk c v = (!decide (c < 0) && !decide (2 < c) && numOk v && !(c != 0 && v != 0)) := by
  unfold codeOk
  by_cases h0 : c = 0
  · subst h0; simp
  · by_cases h1 : c = 1 ∨ c = 2
    · rw [if_neg h0, if_pos h1]
      have e1 : decide (c < 0) = false := by simp; omega
      have e2 : decide (2 < c) = false := by simp; omega
      have e3 : (c != 0) = true := by simpa using h0
      rw [e1, e2, e3]
      by_cases hv : v = 0
      · subst hv; rfl
      · have : (v == 0) = false := by simpa using hv
        have h2 : (v != 0) = true := by simpa using hv
        rw [this, h2]; simp
    · rw [if_neg h0, if_neg h1]
      by_cases hc : c < 0
      · simp [hc]
      · have : 2 < c := by omega
        simp [this]
/-- What is wrong with the request at place k, test by test. -/
theorem doneAt_raw {ds : List Q4} {k : Nat} {a b c v : Int} (h : (a, b, c, v) = ds.getD k q0) : doneAt ds k = (reqOk a b && (!decide (c < 0) && !decide (2 < c) && numOk v && !(c != 0 && v != 0)) && !(decide (0 < k) && decide (a ≤ (ds.getD (k - 1) q0).1))) := by
  unfold doneAt doneOk
  rw [← h]
  simp only
  rw [codeOk_raw]
  cases hr : reqOk a b with
  | false => rfl
  | true =>
    have h0 : 0 ≤ a := by
      simp only [reqOk, Bool.and_eq_true, decide_eq_true_eq] at hr
      exact hr.1.1.1
    congr 2
    unfold leastD
    by_cases hk : k = 0
    · subst hk; simp; omega
    · rw [if_neg hk]
      have : 0 < k := by omega
      simp [this]
      omega

set_option maxRecDepth 100000 in
set_option maxHeartbeats 4000000 in
theorem specCertOk (z : Int) (a1 a2 : Option Addr) (c1 c2 : Nat) (bs : List P2) (ds : List Q4) (w : World) (h1 : Sl w a1 bs) (h2 : Sl4 w a2 ds) (n1 : bs.length ≤ 2 ^ 40) (n2 : ds.length ≤ 2 ^ 40) :
    Calls Tryz.prog 56 #[.agg #[.int .i64 z, .slice a1 bs.length c1, .slice a2 ds.length c2]] w fun e w' => e = .returned (.bool (stOk z bs ds)) ∧ Below w.heap.size w w' := by
  have H1 : Hid (Sl w a1 bs) := h1
  have H2 : Hid (Sl4 w a2 ds) := h2
  clear h1 h2
  have E : Hid (stOk z bs ds = (decide (0 ≤ z) && decide (z ≤ 40) && boxOk bs && donesOkD ds)) := rfl
  generalize stOk z bs ds = T at E ⊢
  obtain ⟨W, hW⟩ : ∃ W, W = w.alloc (.cells #[.int .i64 z, .slice a1 bs.length c1, .slice a2 ds.length c2] 28) := ⟨_, rfl⟩
  have BW : Hid (Below w.heap.size w W) := by show Below _ _ _; rw [hW]; exact (Below.refl _ _).alloc (Nat.le_refl _) _
  have G0 : Hid (Blk W w.heap.size #[.int .i64 z, .slice a1 bs.length c1, .slice a2 ds.length c2] 28) := by show Blk _ _ _ _; rw [hW]; exact Blk.new _ _ _
  have HW : Hid (W = _) := hW
  clear hW
  by_cases z0 : z < 0
  · have F : Hid (T = false) := by
      show _ = _
      have : decide (0 ≤ z) = false := by simp; omega
      rw [E.out, this]; rfl
    have z0' : decide (z < 0) = true := by simpa using z0
    go_enter Tryz.func56, Tryz.ntmps56
    go_wp2_with fail
    go_ret
    exact ⟨ret_bool F.out.symm, by rw [← HW.out]; exact BW.out⟩
  · have z0' : decide (z < 0) = false := by simpa using z0
    by_cases z1 : 40 < z
    · have F : Hid (T = false) := by
        show _ = _
        have : decide (z ≤ 40) = false := by simp; omega
        rw [E.out, this]; simp
      have z1' : decide (40 < z) = true := by simpa using z1
      go_enter Tryz.func56, Tryz.ntmps56
      go_wp2_with fail
      go_ret
      exact ⟨ret_bool F.out.symm, by rw [← HW.out]; exact BW.out⟩
    · have E2 : Hid (T = (boxOk bs && donesOkD ds)) := by
        show _ = _
        have e1 : decide (0 ≤ z) = true := by simp; omega
        have e2 : decide (z ≤ 40) = true := by simp; omega
        rw [E.out, e1, e2]; rfl
      have z1' : decide (40 < z) = false := by simpa using z1
      go_enter Tryz.func56, Tryz.ntmps56
      go_wp2_with fail
      rw [← HW.out]
      refine (specOk a1 c1 bs W (H1.out.below BW.out) n1).mono ?_
      rintro e w1 ⟨rfl, rfl⟩
      obtain ⟨q0, q1, q2⟩ := G0.out.cells3
      generalize boxOk bs = x at E2 ⊢
      cases x with
      | false =>
        have F : Hid (T = false) := by show _ = _; rw [E2.out]; rfl
        go_wp2_with fail
        go_ret
        exact ⟨ret_bool F.out.symm, BW.out⟩
      | true =>
        have E3 : Hid (T = donesOkD ds) := by show _ = _; rw [E2.out]; rfl
        clear E E2
        go_wp2_with fail
        clear q0 q1 q2 z0 z1 z0' z1'
        go_loopw [3] (fun i wr => ∃ k : Nat, k ≤ ds.length ∧ i = .int .i64 k ∧ Hid (∀ i, i < k → doneAt ds i = true) ∧ Below w1.heap.size w1 wr) (fun i _ => ds.length - (intOf i).toNat)
        case atStart => exact ⟨0, Nat.zero_le _, rfl, fun i hi => by omega, Below.refl _ _⟩
        case round =>
          obtain ⟨k, hk, rfl, hA, hB⟩ := hrel
          obtain ⟨q0, q1, q2⟩ := (G0.out.keep hB).cells3
          by_cases hlt : k < ds.length
          · rcases (H2.out.below BW.out).below hB with h | ⟨b1, o1, rfl, h1⟩
            · subst h; simp at hlt
            obtain ⟨p, hp⟩ : ∃ p, p = ds.getD k Own.q0 := ⟨_, rfl⟩
            obtain ⟨ca, cb, cc, cd⟩ := h1.2 k hlt
            rw [← hp] at ca cb cc cd
            obtain ⟨p1, p2, p3, p4⟩ := p
            have RES : Hid (doneAt ds k = _) := doneAt_raw hp
            have DF : Hid (doneAt ds k = false → donesOkD ds = false) := donesOkD_false hlt
            have PRE : Hid (∀ m, k = m + 1 → wr.cell? ⟨b1, o1 + m * 4, none⟩ = some (.int .i64 (ds.getD m Own.q0).1)) := fun m hm => (h1.2 m (by omega)).1
            obtain ⟨X, hX⟩ : ∃ X, X = wr.alloc (.cells #[.int .i64 p1, .int .i64 p2, .int .i64 p3, .int .i64 p4] 94) := ⟨_, rfl⟩
            have bX : Below wr.heap.size wr X := by rw [hX]; exact (Below.refl _ _).alloc (Nat.le_refl _) _
            have BX : Hid (Below w1.heap.size w1 X) := hB.trans (bX.mono hB.size)
            have GX : Hid (Blk X wr.heap.size #[.int .i64 p1, .int .i64 p2, .int .i64 p3, .int .i64 p4] 94) := by show Blk _ _ _ _; rw [hX]; exact Blk.new _ _ _
            have PX : Hid (∀ m, k = m + 1 → X.cell? ⟨b1, o1 + m * 4, none⟩ = some (.int .i64 (ds.getD m Own.q0).1)) := fun m hm => by rw [bX.cell (p := ⟨b1, o1 + m * 4, none⟩) h1.1]; exact PRE.out m hm
            have SX : Hid (Blk X w.heap.size #[.int .i64 z, .slice a1 bs.length c1, .slice (some ⟨b1, o1, none⟩) ds.length c2] 28) := (G0.out.keep hB).keep bX
            have HX : Hid (X = _) := hX
            clear hX hB hp h1 bX PRE
            go_upto_region 7 with fail
            rw [← HX.out]
            clear q0 q1 q2 ca cb cc cd
            have Q1 : Hid (∀ d os, Calls Tryz.prog 85 #[.agg #[.int .i64 p1, .int .i64 p2]] (grow (redrawn X d) os) fun e w'' => e = .returned (.bool (reqOk p1 p2)) ∧ ∃ p : Regrown, w'' = grow (redrawn X p.d) p.os) := fun d os => Calls.regrown_of (specReqOk p1 p2 _)
            have Q2 : Hid (∀ d os, Calls Tryz.prog 101 #[.int .i64 p4] (grow (redrawn X d) os) fun e w'' => e = .returned (.bool (numOk p4)) ∧ ∃ p : Regrown, w'' = grow (redrawn X p.d) p.os) := fun d os => Calls.regrown_of ((l1Num p4 _).mono fun e w' ⟨h1, h2⟩ => ⟨h1, by rw [h2]; exact Below.refl _ _⟩)
            have D : Hid (∃ ok, ok = doneAt ds k) := ⟨_, rfl⟩
            obtain ⟨g0, g1, g2, g3⟩ := GX.out.cells4
            have m0 := cell_regrown g0
            have m1 := cell_regrown g1
            have m2 := cell_regrown g2
            have m3 := cell_regrown g3
            have ms := cell_regrown SX.out.cells3.2.2
            clear g0 g1 g2 g3
            go_cut [78] from 31 to 78 (fun c wx => c = .bool (!doneAt ds k) ∧ Below X.heap.size X wx)
            case first =>
              generalize hr : reqOk p1 p2 = r1 at RES Q1
              clear hr
              cases r1 with
              | false =>

                refine wp_region_quiet_below (by kernel_rfl) (by kernel_rfl) ?_
                repeat (go_big_quiet_step (first | (go_at_call_of 85 (Value.int IntKind.i64 p1); exact Q1.out _ _) | (go_at_call_of 101 (Value.int IntKind.i64 p4); exact Q2.out _ _)))
                refine wpQuiet_nil ?_
                intro _ hw'
                obtain ⟨⟨dq, osq⟩, hw''⟩ := hw'
                have hx : Hid (Below X.heap.size X (grow (redrawn X dq) osq)) := below_regrown X dq osq
                rw [← hw''] at hx
                clear hw''
                go_wp2
                go_meet
                exact ⟨by rw [RES.out]; rfl, hx.out⟩
              | true =>
                by_cases t0 : p3 < 0
                · have t0' : decide (p3 < 0) = true := by simpa using t0
                  refine wp_region_quiet_below (by kernel_rfl) (by kernel_rfl) ?_
                  repeat (go_big_quiet_step (first | (go_at_call_of 85 (Value.int IntKind.i64 p1); exact Q1.out _ _) | (go_at_call_of 101 (Value.int IntKind.i64 p4); exact Q2.out _ _)))
                  refine wpQuiet_nil ?_
                  intro _ hw'
                  obtain ⟨⟨dq, osq⟩, hw''⟩ := hw'
                  have hx : Hid (Below X.heap.size X (grow (redrawn X dq) osq)) := below_regrown X dq osq
                  rw [← hw''] at hx
                  clear hw''
                  go_wp2
                  go_meet
                  exact ⟨by rw [RES.out]; rw [t0']; rfl, hx.out⟩
                · have t0' : decide (p3 < 0) = false := by simpa using t0
                  by_cases t1 : 2 < p3
                  · have t1' : decide (2 < p3) = true := by simpa using t1
                    refine wp_region_quiet_below (by kernel_rfl) (by kernel_rfl) ?_
                    repeat (go_big_quiet_step (first | (go_at_call_of 85 (Value.int IntKind.i64 p1); exact Q1.out _ _) | (go_at_call_of 101 (Value.int IntKind.i64 p4); exact Q2.out _ _)))
                    refine wpQuiet_nil ?_
                    intro _ hw'
                    obtain ⟨⟨dq, osq⟩, hw''⟩ := hw'
                    have hx : Hid (Below X.heap.size X (grow (redrawn X dq) osq)) := below_regrown X dq osq
                    rw [← hw''] at hx
                    clear hw''
                    go_wp2
                    go_meet
                    exact ⟨by rw [RES.out]; rw [t0', t1']; rfl, hx.out⟩
                  · have t1' : decide (2 < p3) = false := by simpa using t1
                    generalize numOk p4 = r2 at RES Q2
                    cases r2 with
                    | false =>
                      refine wp_region_quiet_below (by kernel_rfl) (by kernel_rfl) ?_
                      repeat (go_big_quiet_step (first | (go_at_call_of 85 (Value.int IntKind.i64 p1); exact Q1.out _ _) | (go_at_call_of 101 (Value.int IntKind.i64 p4); exact Q2.out _ _)))
                      refine wpQuiet_nil ?_
                      intro _ hw'
                      obtain ⟨⟨dq, osq⟩, hw''⟩ := hw'
                      have hx : Hid (Below X.heap.size X (grow (redrawn X dq) osq)) := below_regrown X dq osq
                      rw [← hw''] at hx
                      clear hw''
                      go_wp2
                      go_meet
                      exact ⟨by rw [RES.out]; rw [t0', t1']; rfl, hx.out⟩
                    | true =>
                      have R2 : Hid (doneAt ds k = (!(p3 != 0 && p4 != 0) && !(decide (0 < k) && decide (p1 ≤ (ds.getD (k - 1) Own.q0).1)))) := by show _ = _; rw [RES.out, t0', t1']; rfl
                      clear RES
                      have RES : Hid _ := R2
                      clear R2
                      cases t2 : (p3 != 0) with
                      | true =>
                        cases t3 : (p4 != 0) with
                        | true =>
                          refine wp_region_quiet_below (by kernel_rfl) (by kernel_rfl) ?_
                          repeat (go_big_quiet_step (first | (go_at_call_of 85 (Value.int IntKind.i64 p1); exact Q1.out _ _) | (go_at_call_of 101 (Value.int IntKind.i64 p4); exact Q2.out _ _)))
                          refine wpQuiet_nil ?_
                          intro _ hw'
                          obtain ⟨⟨dq, osq⟩, hw''⟩ := hw'
                          have hx : Hid (Below X.heap.size X (grow (redrawn X dq) osq)) := below_regrown X dq osq
                          rw [← hw''] at hx
                          clear hw''
                          go_wp2
                          go_meet
                          exact ⟨by rw [RES.out]; rw [t2, t3]; rfl, hx.out⟩
                        | false =>
                          cases k with
                          | zero =>
                            refine wp_region_quiet_below (by kernel_rfl) (by kernel_rfl) ?_
                            repeat (go_big_quiet_step (first | (go_at_call_of 85 (Value.int IntKind.i64 p1); exact Q1.out _ _) | (go_at_call_of 101 (Value.int IntKind.i64 p4); exact Q2.out _ _)))
                            refine wpQuiet_nil ?_
                            intro _ hw'
                            obtain ⟨⟨dq, osq⟩, hw''⟩ := hw'
                            have hx : Hid (Below X.heap.size X (grow (redrawn X dq) osq)) := below_regrown X dq osq
                            rw [← hw''] at hx
                            clear hw''
                            go_wp2
                            go_meet
                            exact ⟨by rw [RES.out]; rw [t2, t3]; rfl, hx.out⟩
                          | succ m =>
                            have hm := cell_regrown (PX.out m rfl)
                            generalize hpv : (ds.getD m Own.q0).1 = pv at hm
                            have HPV : Hid ((ds.getD (m + 1 - 1) Own.q0).1 = pv) := hpv
                            clear hpv
                            have hmi : ((m + 1 : Nat) : Int) - 1 = (m : Int) := by omega
                            have hlm : m < ds.length := by omega
                            have hgt : decide (0 < m + 1) = true := by simp
                            generalize hle : decide (p1 ≤ pv) = le
                            refine wp_region_quiet_below (by kernel_rfl) (by kernel_rfl) ?_
                            repeat (go_big_quiet_step (first | (go_at_call_of 85 (Value.int IntKind.i64 p1); exact Q1.out _ _) | (go_at_call_of 101 (Value.int IntKind.i64 p4); exact Q2.out _ _)))
                            refine wpQuiet_nil ?_
                            intro _ hw'
                            obtain ⟨⟨dq, osq⟩, hw''⟩ := hw'
                            have hx : Hid (Below X.heap.size X (grow (redrawn X dq) osq)) := below_regrown X dq osq
                            rw [← hw''] at hx
                            clear hw''
                            go_wp2
                            go_meet
                            exact ⟨by rw [RES.out]; rw [t2, t3, HPV.out, hgt, hle]; cases le <;> rfl, hx.out⟩
                      | false =>
                        cases k with
                        | zero =>
                          refine wp_region_quiet_below (by kernel_rfl) (by kernel_rfl) ?_
                          repeat (go_big_quiet_step (first | (go_at_call_of 85 (Value.int IntKind.i64 p1); exact Q1.out _ _) | (go_at_call_of 101 (Value.int IntKind.i64 p4); exact Q2.out _ _)))
                          refine wpQuiet_nil ?_
                          intro _ hw'
                          obtain ⟨⟨dq, osq⟩, hw''⟩ := hw'
                          have hx : Hid (Below X.heap.size X (grow (redrawn X dq) osq)) := below_regrown X dq osq
                          rw [← hw''] at hx
                          clear hw''
                          go_wp2
                          go_meet
                          exact ⟨by rw [RES.out]; rw [t2]; rfl, hx.out⟩
                        | succ m =>
                          have hm := cell_regrown (PX.out m rfl)
                          generalize hpv : (ds.getD m Own.q0).1 = pv at hm
                          have HPV : Hid ((ds.getD (m + 1 - 1) Own.q0).1 = pv) := hpv
                          clear hpv
                          have hmi : ((m + 1 : Nat) : Int) - 1 = (m : Int) := by omega
                          have hlm : m < ds.length := by omega
                          have hgt : decide (0 < m + 1) = true := by simp
                          generalize hle : decide (p1 ≤ pv) = le
                          refine wp_region_quiet_below (by kernel_rfl) (by kernel_rfl) ?_
                          repeat (go_big_quiet_step (first | (go_at_call_of 85 (Value.int IntKind.i64 p1); exact Q1.out _ _) | (go_at_call_of 101 (Value.int IntKind.i64 p4); exact Q2.out _ _)))
                          refine wpQuiet_nil ?_
                          intro _ hw'
                          obtain ⟨⟨dq, osq⟩, hw''⟩ := hw'
                          have hx : Hid (Below X.heap.size X (grow (redrawn X dq) osq)) := below_regrown X dq osq
                          rw [← hw''] at hx
                          clear hw''
                          go_wp2
                          go_meet
                          exact ⟨by rw [RES.out]; rw [t2, HPV.out, hgt, hle]; cases le <;> rfl, hx.out⟩
            case rest =>
              obtain ⟨rfl, hB2⟩ := hcut
              have B2 : Hid (Below w1.heap.size w1 wc) := BX.out.trans (hB2.mono BX.out.size)
              clear hB2 m0 m1 m2 m3 ms RES PX Q1 Q2 D GX SX
              cases ho : doneAt ds k with
              | false =>
                have F : Hid (T = false) := by show _ = _; rw [E3.out]; exact DF.out ho
                go_wp2
                go_ret
                exact ⟨ret_bool F.out.symm, BW.out.trans (B2.out.mono BW.out.size)⟩
              | true =>
                have N : Hid (∀ i, i < k + 1 → doneAt ds i = true) := fun i hi => by
                  by_cases e : i = k
                  · subst e; exact ho
                  · exact hA.out i (by omega)
                clear ho
                go_wp2
                go_roundw
                case rel => exact ⟨k + 1, by omega, by go_num, N, B2.out⟩
                case measure => simp [intOf]; omega
          · have F : Hid (T = true) := by show _ = _; rw [E3.out]; exact donesOkD_iff.2 fun i hi => hA.out i (by omega)
            go_wp2_with fail
            go_ret
            exact ⟨ret_bool F.out.symm, BW.out.trans (hB.mono BW.out.size)⟩
end Go.Proofs.YtbecdihfopjlhaaGreatDoor.Own
