/-
  Own texts, bundled: MsgOkS, MsgTextS.
-/
import Derived.Test.YtildonpdmmliaaaGreatDoorPk5
import Derived.Test.YtildonpdmmliaaaGreatDoorPk10
import Derived.Test.YtildonpdmmliaaaGreatDoorPk7
import Derived.Test.YtildonpdmmliaaaGreatDoorPk9
import Derived.Deep.RegionHeld
import Derived.Deep.QuietTactic
import Derived.Deep.Cut
namespace Go.Proofs.YtildonpdmmliaaaGreatDoor.Own
open Go.RowKit
set_option linter.unusedVariables false
set_option linter.unusedSimpArgs false

set_option maxRecDepth 100000 in
set_option maxHeartbeats 1000000 in
theorem specNone (n : Bool) (p q : Int) (a1 a2 : Option Addr) (c1 c2 : Nat) (xs ys : List P2) (v k : Int) (w : World) (h1 : Sl w a1 xs) (h2 : Sl w a2 ys) (n1 : xs.length ≤ 2 ^ 40) (n2 : ys.length ≤ 2 ^ 40) :
    Calls Tryz.prog 24 #[.agg #[.bool n, .int .i64 p, .int .i64 q, .slice a1 xs.length c1, .slice a2 ys.length c2, .int .i64 v, .int .i64 k]] w fun e w' => e = .returned (.bool (noneE ⟨n, p, q, xs, ys, v, k⟩)) ∧ Below w.heap.size w w' := by
  have H1 : Hid (Sl w a1 xs) := h1
  have H2 : Hid (Sl w a2 ys) := h2
  clear h1 h2
  obtain ⟨W, hW⟩ : ∃ W, W = w.alloc (.cells #[.bool n, .int .i64 p, .int .i64 q, .slice a1 xs.length c1, .slice a2 ys.length c2, .int .i64 v, .int .i64 k] 41) := ⟨_, rfl⟩
  have BW : Hid (Below w.heap.size w W) := by show Below _ _ _; rw [hW]; exact (Below.refl _ _).alloc (Nat.le_refl _) _
  have HW : Hid (W = _) := hW
  clear hW
  have hq := fun w => eqlReq p q 0 0 w
  cases n with
  | true =>
    rw [noneE_none]
    go_enter Tryz.func24, Tryz.ntmps24
    go_wp2_with fail
    go_ret
    exact ⟨rfl, by rw [← HW.out]; exact BW.out⟩
  | false =>
    cases he : eq2 (p, q) (0, 0) with
    | false =>
      rw [noneE_req _ _ _ _ _ he]
      rw [he] at hq
      go_enter Tryz.func24, Tryz.ntmps24
      go_wp2_with fail
      go_ret
      exact ⟨rfl, by rw [← HW.out]; exact BW.out⟩
    | true =>
      rw [noneE_run _ _ _ _ he]
      rw [he] at hq
      go_enter Tryz.func24, Tryz.ntmps24
      go_wp2_with fail
      rw [← HW.out]
      refine (specExecSame a1 a2 none none c1 c2 0 0 xs ys [] [] v k 0 0 W (H1.out.below BW.out) (H2.out.below BW.out) (.inl rfl) (.inl rfl) n1 n2 (by simp) (by simp)).mono ?_
      rintro e w1 ⟨rfl, b1'⟩
      have B1 : Hid (Below w.heap.size w w1) := BW.out.trans (b1'.mono BW.out.size)
      clear b1'
      generalize hr : sameRun xs ys [] [] v k 0 0 = r
      have HR : Hid (_ = r) := hr
      clear hr
      go_wp2_with fail
      go_ret
      exact ⟨ret_bool HR.out.symm, B1.out⟩

set_option maxRecDepth 100000 in
set_option maxHeartbeats 4000000 in
theorem specMsgOk (x : MM) (w : World) (h : AtM w x) (f : FitM x) :
    Calls Tryz.prog 11 #[.agg #[.int .i64 x.kind, .int .i64 x.src, .int .i64 x.dst, .int .i64 x.bal, .int .i64 x.slot, .bool x.b.n, .int .i64 x.b.p, .int .i64 x.b.q, .slice x.a1 x.b.xs.length x.c1, .slice x.a2 x.b.ys.length x.c2, .int .i64 x.b.v, .int .i64 x.b.k, .slice x.a x.vs.length x.c]] w fun e w' => e = .returned (.bool (msgOk x)) ∧ Below w.heap.size w w' := by
  have H : Hid (AtM w x) := h
  have F : Hid (FitM x) := f
  clear h f
  have E : Hid (msgOk x = (nodeId x.src && nodeId x.dst && x.src != x.dst && formOk x.kind x.bal x.slot x.b (bodies x.vs))) := rfl
  generalize msgOk x = T at E ⊢
  obtain ⟨W, hW⟩ : ∃ W, W = w.alloc (.cells #[.int .i64 x.kind, .int .i64 x.src, .int .i64 x.dst, .int .i64 x.bal, .int .i64 x.slot, .bool x.b.n, .int .i64 x.b.p, .int .i64 x.b.q, .slice x.a1 x.b.xs.length x.c1, .slice x.a2 x.b.ys.length x.c2, .int .i64 x.b.v, .int .i64 x.b.k, .slice x.a x.vs.length x.c] 44) := ⟨_, rfl⟩
  have BW : Hid (Below w.heap.size w W) := by show Below _ _ _; rw [hW]; exact (Below.refl _ _).alloc (Nat.le_refl _) _
  have G0 : Hid (Blk W w.heap.size #[.int .i64 x.kind, .int .i64 x.src, .int .i64 x.dst, .int .i64 x.bal, .int .i64 x.slot, .bool x.b.n, .int .i64 x.b.p, .int .i64 x.b.q, .slice x.a1 x.b.xs.length x.c1, .slice x.a2 x.b.ys.length x.c2, .int .i64 x.b.v, .int .i64 x.b.k, .slice x.a x.vs.length x.c] 44) := by show Blk _ _ _ _; rw [hW]; exact Blk.new _ _ _
  have HW : Hid (W = _) := hW
  clear hW
  have CE : Hid (∀ w', Below W.heap.size W w' → Calls Tryz.prog 25 #[.agg #[.bool x.b.n, .int .i64 x.b.p, .int .i64 x.b.q, .slice x.a1 x.b.xs.length x.c1, .slice x.a2 x.b.ys.length x.c2, .int .i64 x.b.v, .int .i64 x.b.k]] w' fun e w'' => e = .returned (.bool (rightE x.b)) ∧ Below w'.heap.size w' w'') := fun w' hb => specCertEntry x.b.n x.b.p x.b.q x.a1 x.a2 x.c1 x.c2 x.b.xs x.b.ys x.b.v x.b.k w' ((H.out.1.below BW.out).below hb) ((H.out.2.1.below BW.out).below hb) F.out.1 F.out.2.1 F.out.2.2.1 F.out.2.2.2.1
  have CV : Hid (∀ w', Below W.heap.size W w' → Calls Tryz.prog 27 #[.slice x.a x.vs.length x.c] w' fun e w'' => e = .returned (.bool (votesOk (bodies x.vs))) ∧ Below w'.heap.size w' w'') := fun w' hb => specVotes x.a x.c x.vs w' ((H.out.2.2.below BW.out).below hb) F.out.2.2.2.2.1 F.out.2.2.2.2.2
  have BL : Hid ((bodies x.vs).length = x.vs.length) := bodies_len _
  cases hk2 : (x.kind == 2) with
  | true =>
    have hk3 : (x.kind != 2) = false := by simp only [bne, hk2]; rfl
    by_cases h0 : x.src < 0
    · have X : Hid (T = false) := by
        show _ = _
        rw [E.out]
        have : nodeId x.src = false := by simp [nodeId]; omega
        rw [this]; rfl
      clear E
      go_enter Tryz.func11, Tryz.ntmps11
      go_wp2_with fail
      go_ret
      exact ⟨ret_bool X.out.symm, by rw [← HW.out]; exact BW.out⟩
    · skip
      by_cases h1 : 3 ≤ x.src
      · have X : Hid (T = false) := by
          show _ = _
          rw [E.out]
          have : nodeId x.src = false := by simp [nodeId]; omega
          rw [this]; rfl
        clear E
        go_enter Tryz.func11, Tryz.ntmps11
        go_wp2_with fail
        go_ret
        exact ⟨ret_bool X.out.symm, by rw [← HW.out]; exact BW.out⟩
      · skip
        by_cases h2 : x.dst < 0
        · have X : Hid (T = false) := by
            show _ = _
            rw [E.out]
            have : nodeId x.dst = false := by simp [nodeId]; omega
            rw [this]; simp
          clear E
          go_enter Tryz.func11, Tryz.ntmps11
          go_wp2_with fail
          go_ret
          exact ⟨ret_bool X.out.symm, by rw [← HW.out]; exact BW.out⟩
        · skip
          by_cases h3 : 3 ≤ x.dst
          · have X : Hid (T = false) := by
              show _ = _
              rw [E.out]
              have : nodeId x.dst = false := by simp [nodeId]; omega
              rw [this]; simp
            clear E
            go_enter Tryz.func11, Tryz.ntmps11
            go_wp2_with fail
            go_ret
            exact ⟨ret_bool X.out.symm, by rw [← HW.out]; exact BW.out⟩
          · skip
            cases h4 : (x.src == x.dst) with
            | true =>
              have X : Hid (T = false) := by
                show _ = _
                rw [E.out]
                have : (x.src != x.dst) = false := by simp only [bne, h4]; rfl
                rw [this]; simp
              clear E
              go_enter Tryz.func11, Tryz.ntmps11
              go_wp2_with fail
              go_ret
              exact ⟨ret_bool X.out.symm, by rw [← HW.out]; exact BW.out⟩
            | false =>
              by_cases h5 : x.slot < 0
              · have X : Hid (T = false) := by
                  show _ = _
                  rw [E.out]
                  rw [form_slot (.inl h5)]; simp
                clear E
                go_enter Tryz.func11, Tryz.ntmps11
                go_wp2_with fail
                go_ret
                exact ⟨ret_bool X.out.symm, by rw [← HW.out]; exact BW.out⟩
              · skip
                by_cases h6 : x.slot > 40
                · have X : Hid (T = false) := by
                    show _ = _
                    rw [E.out]
                    rw [form_slot (.inr h6)]; simp
                  clear E
                  go_enter Tryz.func11, Tryz.ntmps11
                  go_wp2_with fail
                  go_ret
                  exact ⟨ret_bool X.out.symm, by rw [← HW.out]; exact BW.out⟩
                · skip
                  have E2 : Hid (T = formOk x.kind x.bal x.slot x.b (bodies x.vs)) := by
                    show _ = _
                    have e1 : nodeId x.src = true := by simp [nodeId]; omega
                    have e2 : nodeId x.dst = true := by simp [nodeId]; omega
                    have e3 : (x.src != x.dst) = true := by simp only [bne, h4]; rfl
                    rw [E.out, e1, e2, e3]; rfl
                  clear E
                  have S40 : Hid (0 ≤ x.slot ∧ x.slot ≤ 40) := by constructor <;> omega
                  go_enter Tryz.func11, Tryz.ntmps11
                  go_wp2_with fail
                  rw [← HW.out]
                  refine (specNone x.b.n x.b.p x.b.q x.a1 x.a2 x.c1 x.c2 x.b.xs x.b.ys x.b.v x.b.k W (H.out.1.below BW.out) (H.out.2.1.below BW.out) F.out.1 F.out.2.1).mono ?_
                  rintro e w1 ⟨rfl, b1⟩
                  have B1 : Hid (Below W.heap.size W w1) := b1
                  obtain ⟨q0, q1, q2, q3, q4, q5, q6, q7, q8, q9, q10, q11, q12⟩ := (G0.out.keep b1).cells13
                  clear b1
                  have NE : Hid (noneE ⟨x.b.n, x.b.p, x.b.q, x.b.xs, x.b.ys, x.b.v, x.b.k⟩ = noneE x.b) := rfl
                  rw [NE.out]
                  generalize hno : noneE x.b = no
                  have NO : Hid (noneE x.b = no) := hno
                  clear hno
                  go_wp2_with fail
                  refine (CE.out w1 B1.out).mono ?_
                  rintro e w2 ⟨rfl, b2⟩
                  have B2 : Hid (Below W.heap.size W w2) := B1.out.trans (b2.mono B1.out.size)
                  have B2w : Hid (Below w.heap.size w w2) := BW.out.trans (B2.out.mono BW.out.size)
                  clear b2 q0 q1 q2 q3 q4 q5 q6 q7 q8 q9 q10 q11 q12
                  obtain ⟨q0, q1, q2, q3, q4, q5, q6, q7, q8, q9, q10, q11, q12⟩ := (G0.out.keep B2.out).cells13
                  generalize hri : rightE x.b = ri
                  have RI : Hid (rightE x.b = ri) := hri
                  clear hri
                  have k1 : (x.kind == 1) = false := by rw [show x.kind = 2 by simpa using hk2]; rfl
                  have E3 : Hid (T = (isBal x.bal && no && (votesOk (bodies x.vs) && decide (x.slot + x.vs.length ≤ 40)))) := by
                    show _ = _
                    have hk : x.kind = 2 := by simpa using hk2
                    have hs : inSpan 0 40 x.slot = true := by have := S40.out; simp [inSpan]; omega
                    rw [E2.out, hk]
                    simp only [formOk, hs, NO.out, BL.out]
                    simp
                  clear E2
                  have OV : Hid (0 ≤ (x.vs.length : Int) ∧ (x.vs.length : Int) ≤ 2 ^ 40) := ⟨by omega, by have := F.out.2.2.2.2.1; omega⟩
                  cases ri
                  all_goals
                    go_wp2_with fail
                    refine (specBal x.bal w2).mono ?_
                    rintro e w3 ⟨rfl, rfl⟩
                    generalize isBal x.bal = ib at E3 ⊢
                    cases ib with
                    | false =>
                      have X : Hid (T = false) := by show _ = _; rw [E3.out]; rfl
                      go_wp2_with fail
                      go_ret
                      exact ⟨ret_bool X.out.symm, B2w.out⟩
                    | true =>
                      cases no with
                      | false =>
                        have X : Hid (T = false) := by show _ = _; rw [E3.out]; rfl
                        go_wp2_with fail
                        go_ret
                        exact ⟨ret_bool X.out.symm, B2w.out⟩
                      | true =>
                        go_wp2_with fail
                        refine (CV.out w3 B2.out).mono ?_
                        rintro e w4 ⟨rfl, b4⟩
                        have B4 : Hid (Below w.heap.size w w4) := B2w.out.trans (b4.mono B2w.out.size)
                        obtain ⟨r0, r1, r2, r3, r4, r5, r6, r7, r8, r9, r10, r11, r12⟩ := (G0.out.keep (B2.out.trans (b4.mono B2.out.size))).cells13
                        clear b4 q0 q1 q2 q3 q4 q5 q6 q7 q8 q9 q10 q11 q12
                        generalize votesOk (bodies x.vs) = vo at E3 ⊢
                        cases vo with
                        | false =>
                          have X : Hid (T = false) := by show _ = _; rw [E3.out]; rfl
                          go_wp2_with fail
                          go_ret
                          exact ⟨ret_bool X.out.symm, B4.out⟩
                        | true =>
                          have X : Hid (T = decide (x.slot + x.vs.length ≤ 40)) := by show _ = _; rw [E3.out]; rfl
                          have ov := OV.out
                          have sv := S40.out
                          have hw1 : IntKind.i64.wrap (x.slot + (x.vs.length : Int)) = x.slot + (x.vs.length : Int) := by rw [IntKind.wrap_i64]; omega
                          go_wp2_with fail
                          go_ret
                          exact ⟨ret_bool X.out.symm, B4.out⟩
  | false =>
    have hk3 : (x.kind != 2) = true := by simp only [bne, hk2]; rfl
    by_cases h0 : x.src < 0
    · have X : Hid (T = false) := by
        show _ = _
        rw [E.out]
        have : nodeId x.src = false := by simp [nodeId]; omega
        rw [this]; rfl
      clear E
      go_enter Tryz.func11, Tryz.ntmps11
      go_wp2_with fail
      go_ret
      exact ⟨ret_bool X.out.symm, by rw [← HW.out]; exact BW.out⟩
    · skip
      by_cases h1 : 3 ≤ x.src
      · have X : Hid (T = false) := by
          show _ = _
          rw [E.out]
          have : nodeId x.src = false := by simp [nodeId]; omega
          rw [this]; rfl
        clear E
        go_enter Tryz.func11, Tryz.ntmps11
        go_wp2_with fail
        go_ret
        exact ⟨ret_bool X.out.symm, by rw [← HW.out]; exact BW.out⟩
      · skip
        by_cases h2 : x.dst < 0
        · have X : Hid (T = false) := by
            show _ = _
            rw [E.out]
            have : nodeId x.dst = false := by simp [nodeId]; omega
            rw [this]; simp
          clear E
          go_enter Tryz.func11, Tryz.ntmps11
          go_wp2_with fail
          go_ret
          exact ⟨ret_bool X.out.symm, by rw [← HW.out]; exact BW.out⟩
        · skip
          by_cases h3 : 3 ≤ x.dst
          · have X : Hid (T = false) := by
              show _ = _
              rw [E.out]
              have : nodeId x.dst = false := by simp [nodeId]; omega
              rw [this]; simp
            clear E
            go_enter Tryz.func11, Tryz.ntmps11
            go_wp2_with fail
            go_ret
            exact ⟨ret_bool X.out.symm, by rw [← HW.out]; exact BW.out⟩
          · skip
            cases h4 : (x.src == x.dst) with
            | true =>
              have X : Hid (T = false) := by
                show _ = _
                rw [E.out]
                have : (x.src != x.dst) = false := by simp only [bne, h4]; rfl
                rw [this]; simp
              clear E
              go_enter Tryz.func11, Tryz.ntmps11
              go_wp2_with fail
              go_ret
              exact ⟨ret_bool X.out.symm, by rw [← HW.out]; exact BW.out⟩
            | false =>
              by_cases h5 : x.slot < 0
              · have X : Hid (T = false) := by
                  show _ = _
                  rw [E.out]
                  rw [form_slot (.inl h5)]; simp
                clear E
                go_enter Tryz.func11, Tryz.ntmps11
                go_wp2_with fail
                go_ret
                exact ⟨ret_bool X.out.symm, by rw [← HW.out]; exact BW.out⟩
              · skip
                by_cases h6 : x.slot > 40
                · have X : Hid (T = false) := by
                    show _ = _
                    rw [E.out]
                    rw [form_slot (.inr h6)]; simp
                  clear E
                  go_enter Tryz.func11, Tryz.ntmps11
                  go_wp2_with fail
                  go_ret
                  exact ⟨ret_bool X.out.symm, by rw [← HW.out]; exact BW.out⟩
                · skip
                  by_cases h7 : (x.vs.length : Int) > 0
                  · have X : Hid (T = false) := by
                      show _ = _
                      rw [E.out, form_votes (by simpa using hk2) (by rw [BL.out]; omega)]
                      simp
                    clear E
                    go_enter Tryz.func11, Tryz.ntmps11
                    go_wp2_with fail
                    go_ret
                    exact ⟨ret_bool X.out.symm, by rw [← HW.out]; exact BW.out⟩
                  · skip
                    have E2 : Hid (T = formOk x.kind x.bal x.slot x.b (bodies x.vs)) := by
                      show _ = _
                      have e1 : nodeId x.src = true := by simp [nodeId]; omega
                      have e2 : nodeId x.dst = true := by simp [nodeId]; omega
                      have e3 : (x.src != x.dst) = true := by simp only [bne, h4]; rfl
                      rw [E.out, e1, e2, e3]; rfl
                    clear E
                    have L0 : Hid (x.vs.length = 0) := by show _ = _; omega
                    have S40 : Hid (0 ≤ x.slot ∧ x.slot ≤ 40) := by constructor <;> omega
                    go_enter Tryz.func11, Tryz.ntmps11
                    go_wp2_with fail
                    rw [← HW.out]
                    refine (specNone x.b.n x.b.p x.b.q x.a1 x.a2 x.c1 x.c2 x.b.xs x.b.ys x.b.v x.b.k W (H.out.1.below BW.out) (H.out.2.1.below BW.out) F.out.1 F.out.2.1).mono ?_
                    rintro e w1 ⟨rfl, b1⟩
                    have B1 : Hid (Below W.heap.size W w1) := b1
                    obtain ⟨q0, q1, q2, q3, q4, q5, q6, q7, q8, q9, q10, q11, q12⟩ := (G0.out.keep b1).cells13
                    clear b1
                    have NE : Hid (noneE ⟨x.b.n, x.b.p, x.b.q, x.b.xs, x.b.ys, x.b.v, x.b.k⟩ = noneE x.b) := rfl
                    rw [NE.out]
                    generalize hno : noneE x.b = no
                    have NO : Hid (noneE x.b = no) := hno
                    clear hno
                    go_wp2_with fail
                    refine (CE.out w1 B1.out).mono ?_
                    rintro e w2 ⟨rfl, b2⟩
                    have B2 : Hid (Below W.heap.size W w2) := B1.out.trans (b2.mono B1.out.size)
                    have B2w : Hid (Below w.heap.size w w2) := BW.out.trans (B2.out.mono BW.out.size)
                    clear b2 q0 q1 q2 q3 q4 q5 q6 q7 q8 q9 q10 q11 q12
                    obtain ⟨q0, q1, q2, q3, q4, q5, q6, q7, q8, q9, q10, q11, q12⟩ := (G0.out.keep B2.out).cells13
                    generalize hri : rightE x.b = ri
                    have RI : Hid (rightE x.b = ri) := hri
                    clear hri
                    have k2 : (x.kind == 2) = false := hk2
                    have E3 : Hid (∀ r, formOk x.kind x.bal x.slot x.b (bodies x.vs) = r → T = r) := fun r hr => by rw [E2.out, hr]
                    clear E2
                    have L1 : Hid (bodies x.vs = []) := List.eq_nil_of_length_eq_zero (by rw [BL.out]; exact L0.out)
                    have S1 : Hid (inSpan 0 40 x.slot = true) := by have := S40.out; show _ = _; simp [inSpan]; omega
                    have S2 : Hid (inSpan 0 39 x.slot = decide (x.slot < 40)) := by
                      have := S40.out
                      show _ = _
                      by_cases h : x.slot < 40
                      · have : x.slot ≤ 39 := by omega
                        simp [inSpan, h, this]; omega
                      · have : ¬ x.slot ≤ 39 := by omega
                        simp [inSpan, h, this]
                    have S3 : Hid (inSpan 0 0 x.slot = (x.slot == 0)) := span_at
                    have S4 : Hid (inSpan 0 0 x.bal = (x.bal == 0)) := span_at
                    have SV := S40.out
                    cases ri with
                    | false =>
                      cases k1 : (x.kind == 1) with
                      | true =>
                        have E4 : Hid (T = (isBal x.bal && no)) := by
                          show _ = _
                          apply E3.out
                          have hk : x.kind = 1 := by simpa using k1
                          have l1 := L1.out; have s1 := S1.out; have s2 := S2.out; have s3 := S3.out; have s4 := S4.out; have no1 := NO.out; have ri1 := RI.out
                          simp [formOk, hk, l1, s1, s2, s3, s4, no1, ri1]
                        have k3 : (x.kind == 3) = false := by rw [show x.kind = 1 by simpa using k1]; rfl
                        have k4 : (x.kind == 4) = false := by rw [show x.kind = 1 by simpa using k1]; rfl
                        have k5 : (x.kind == 5) = false := by rw [show x.kind = 1 by simpa using k1]; rfl
                        have k6 : (x.kind == 6) = false := by rw [show x.kind = 1 by simpa using k1]; rfl
                        have k7 : (x.kind == 7) = false := by rw [show x.kind = 1 by simpa using k1]; rfl
                        have k8 : (x.kind == 8) = false := by rw [show x.kind = 1 by simpa using k1]; rfl
                        clear E3
                        go_wp2_with fail
                        refine (specBal x.bal w2).mono ?_
                        rintro e w3 ⟨rfl, rfl⟩
                        generalize isBal x.bal = ib at E4 ⊢
                        cases ib with
                        | false =>
                          have X : Hid (T = false) := by show _ = _; rw [E4.out]; rfl
                          go_wp2_with fail
                          go_ret
                          exact ⟨ret_bool X.out.symm, B2w.out⟩
                        | true =>
                          have X : Hid (T = no) := by show _ = _; rw [E4.out]; simp
                          go_wp2_with fail
                          go_ret
                          exact ⟨ret_bool X.out.symm, B2w.out⟩
                      | false =>
                        cases k3 : (x.kind == 3) with
                        | true =>
                          have E4 : Hid (T = (isBal x.bal && (false && decide (x.slot < 40)))) := by
                            show _ = _
                            apply E3.out
                            have hk : x.kind = 3 := by simpa using k3
                            have l1 := L1.out; have s1 := S1.out; have s2 := S2.out; have s3 := S3.out; have s4 := S4.out; have no1 := NO.out; have ri1 := RI.out
                            simp [formOk, hk, l1, s1, s2, s3, s4, no1, ri1]
                          have k4 : (x.kind == 4) = false := by rw [show x.kind = 3 by simpa using k3]; rfl
                          have k5 : (x.kind == 5) = false := by rw [show x.kind = 3 by simpa using k3]; rfl
                          have k6 : (x.kind == 6) = false := by rw [show x.kind = 3 by simpa using k3]; rfl
                          have k7 : (x.kind == 7) = false := by rw [show x.kind = 3 by simpa using k3]; rfl
                          have k8 : (x.kind == 8) = false := by rw [show x.kind = 3 by simpa using k3]; rfl
                          clear E3
                          go_wp2_with fail
                          refine (specBal x.bal w2).mono ?_
                          rintro e w3 ⟨rfl, rfl⟩
                          generalize isBal x.bal = ib at E4 ⊢
                          cases ib with
                          | false =>
                            have X : Hid (T = false) := by show _ = _; rw [E4.out]; rfl
                            go_wp2_with fail
                            go_ret
                            exact ⟨ret_bool X.out.symm, B2w.out⟩
                          | true =>
                            have X : Hid (T = false) := by show _ = _; rw [E4.out]; simp
                            go_wp2_with fail
                            go_ret
                            exact ⟨ret_bool X.out.symm, B2w.out⟩
                        | false =>
                          cases k4 : (x.kind == 4) with
                          | true =>
                            have E4 : Hid (T = (isBal x.bal && no)) := by
                              show _ = _
                              apply E3.out
                              have hk : x.kind = 4 := by simpa using k4
                              have l1 := L1.out; have s1 := S1.out; have s2 := S2.out; have s3 := S3.out; have s4 := S4.out; have no1 := NO.out; have ri1 := RI.out
                              simp [formOk, hk, l1, s1, s2, s3, s4, no1, ri1]
                            have k5 : (x.kind == 5) = false := by rw [show x.kind = 4 by simpa using k4]; rfl
                            have k6 : (x.kind == 6) = false := by rw [show x.kind = 4 by simpa using k4]; rfl
                            have k7 : (x.kind == 7) = false := by rw [show x.kind = 4 by simpa using k4]; rfl
                            have k8 : (x.kind == 8) = false := by rw [show x.kind = 4 by simpa using k4]; rfl
                            clear E3
                            go_wp2_with fail
                            refine (specBal x.bal w2).mono ?_
                            rintro e w3 ⟨rfl, rfl⟩
                            generalize isBal x.bal = ib at E4 ⊢
                            cases ib with
                            | false =>
                              have X : Hid (T = false) := by show _ = _; rw [E4.out]; rfl
                              go_wp2_with fail
                              go_ret
                              exact ⟨ret_bool X.out.symm, B2w.out⟩
                            | true =>
                              have X : Hid (T = no) := by show _ = _; rw [E4.out]; simp
                              go_wp2_with fail
                              go_ret
                              exact ⟨ret_bool X.out.symm, B2w.out⟩
                          | false =>
                            cases k5 : (x.kind == 5) with
                            | true =>
                              have E4 : Hid (T = (x.bal == 0 && (false && decide (x.slot < 40)))) := by
                                show _ = _
                                apply E3.out
                                have hk : x.kind = 5 := by simpa using k5
                                have l1 := L1.out; have s1 := S1.out; have s2 := S2.out; have s3 := S3.out; have s4 := S4.out; have no1 := NO.out; have ri1 := RI.out
                                simp [formOk, hk, l1, s1, s2, s3, s4, no1, ri1]
                              have k6 : (x.kind == 6) = false := by rw [show x.kind = 5 by simpa using k5]; rfl
                              have k7 : (x.kind == 7) = false := by rw [show x.kind = 5 by simpa using k5]; rfl
                              have k8 : (x.kind == 8) = false := by rw [show x.kind = 5 by simpa using k5]; rfl
                              clear E3
                              cases b0 : (x.bal == 0) with
                              | false =>
                                have X : Hid (T = false) := by show _ = _; rw [E4.out, b0]; rfl
                                go_wp2_with fail
                                go_ret
                                exact ⟨ret_bool X.out.symm, B2w.out⟩
                              | true =>
                                have X : Hid (T = false) := by show _ = _; rw [E4.out, b0]; simp
                                go_wp2_with fail
                                go_ret
                                exact ⟨ret_bool X.out.symm, B2w.out⟩
                            | false =>
                              cases k6 : (x.kind == 6) with
                              | true =>
                                have E4 : Hid (T = (isBal x.bal && no && x.slot == 0)) := by
                                  show _ = _
                                  apply E3.out
                                  have hk : x.kind = 6 := by simpa using k6
                                  have l1 := L1.out; have s1 := S1.out; have s2 := S2.out; have s3 := S3.out; have s4 := S4.out; have no1 := NO.out; have ri1 := RI.out
                                  simp [formOk, hk, l1, s1, s2, s3, s4, no1, ri1]
                                  try (cases isBal x.bal <;> cases no <;> simp)
                                have k7 : (x.kind == 7) = false := by rw [show x.kind = 6 by simpa using k6]; rfl
                                have k8 : (x.kind == 8) = false := by rw [show x.kind = 6 by simpa using k6]; rfl
                                clear E3
                                go_wp2_with fail
                                refine (specBal x.bal w2).mono ?_
                                rintro e w3 ⟨rfl, rfl⟩
                                generalize isBal x.bal = ib at E4 ⊢
                                cases ib with
                                | false =>
                                  have X : Hid (T = false) := by show _ = _; rw [E4.out]; rfl
                                  go_wp2_with fail
                                  go_ret
                                  exact ⟨ret_bool X.out.symm, B2w.out⟩
                                | true =>
                                  cases no with
                                  | false =>
                                    have X : Hid (T = false) := by show _ = _; rw [E4.out]; rfl
                                    go_wp2_with fail
                                    go_ret
                                    exact ⟨ret_bool X.out.symm, B2w.out⟩
                                  | true =>
                                    have X : Hid (T = (x.slot == 0)) := by show _ = _; rw [E4.out]; rfl
                                    go_wp2_with fail
                                    go_ret
                                    exact ⟨ret_bool X.out.symm, B2w.out⟩
                              | false =>
                                cases k7 : (x.kind == 7) with
                                | true =>
                                  have E4 : Hid (T = (x.bal == 0 && x.slot == 0 && false && !x.b.n)) := by
                                    show _ = _
                                    apply E3.out
                                    have hk : x.kind = 7 := by simpa using k7
                                    have l1 := L1.out; have s1 := S1.out; have s2 := S2.out; have s3 := S3.out; have s4 := S4.out; have no1 := NO.out; have ri1 := RI.out
                                    simp [formOk, hk, l1, s1, s2, s3, s4, no1, ri1]
                                  have k8 : (x.kind == 8) = false := by rw [show x.kind = 7 by simpa using k7]; rfl
                                  clear E3
                                  cases b0 : (x.bal == 0) with
                                  | false =>
                                    have X : Hid (T = false) := by show _ = _; rw [E4.out, b0]; rfl
                                    go_wp2_with fail
                                    go_ret
                                    exact ⟨ret_bool X.out.symm, B2w.out⟩
                                  | true =>
                                    cases s0 : (x.slot == 0) with
                                    | false =>
                                      have X : Hid (T = false) := by show _ = _; rw [E4.out, b0, s0]; rfl
                                      go_wp2_with fail
                                      go_ret
                                      exact ⟨ret_bool X.out.symm, B2w.out⟩
                                    | true =>
                                      have X : Hid (T = (false && !x.b.n)) := by show _ = _; rw [E4.out, b0, s0]; rfl
                                      have CR := CE.out w2 B2.out
                                      rw [RI.out] at CR
                                      have HCR : Hid (Calls _ _ _ _ _) := CR
                                      clear CR
                                      go_wp2_with fail
                                      refine Calls.mono HCR.out ?_
                                      rintro e w3 ⟨rfl, b3⟩
                                      have B3 : Hid (Below w.heap.size w w3) := B2w.out.trans (b3.mono B2w.out.size)
                                      obtain ⟨r0, r1, r2, r3, r4, r5, r6, r7, r8, r9, r10, r11, r12⟩ := (G0.out.keep (B2.out.trans (b3.mono B2.out.size))).cells13
                                      clear b3 q0 q1 q2 q3 q4 q5 q6 q7 q8 q9 q10 q11 q12
                                      go_wp2_with fail
                                      go_ret
                                      exact ⟨ret_bool X.out.symm, B3.out⟩
                                | false =>
                                  cases k8 : (x.kind == 8) with
                                  | true =>
                                    have E4 : Hid (T = (x.bal == 0 && no)) := by
                                      show _ = _
                                      apply E3.out
                                      have hk : x.kind = 8 := by simpa using k8
                                      have l1 := L1.out; have s1 := S1.out; have s2 := S2.out; have s3 := S3.out; have s4 := S4.out; have no1 := NO.out; have ri1 := RI.out
                                      simp [formOk, hk, l1, s1, s2, s3, s4, no1, ri1]
                                    clear E3
                                    cases b0 : (x.bal == 0) with
                                    | false =>
                                      have X : Hid (T = false) := by show _ = _; rw [E4.out, b0]; rfl
                                      go_wp2_with fail
                                      go_ret
                                      exact ⟨ret_bool X.out.symm, B2w.out⟩
                                    | true =>
                                      have X : Hid (T = no) := by show _ = _; rw [E4.out, b0]; simp
                                      go_wp2_with fail
                                      go_ret
                                      exact ⟨ret_bool X.out.symm, B2w.out⟩
                                  | false =>
                                    have X : Hid (T = false) := by
                                      show _ = _
                                      apply E3.out
                                      have g1 : x.kind ≠ 1 := by simpa using k1
                                      have g2 : x.kind ≠ 2 := by simpa using k2
                                      have g3 : x.kind ≠ 3 := by simpa using k3
                                      have g4 : x.kind ≠ 4 := by simpa using k4
                                      have g5 : x.kind ≠ 5 := by simpa using k5
                                      have g6 : x.kind ≠ 6 := by simpa using k6
                                      have g7 : x.kind ≠ 7 := by simpa using k7
                                      have g8 : x.kind ≠ 8 := by simpa using k8
                                      simp [formOk, g1, g2, g3, g4, g5, g6, g7, g8]
                                    clear E3
                                    go_wp2_with fail
                                    go_ret
                                    exact ⟨ret_bool X.out.symm, B2w.out⟩
                    | true =>
                      cases k1 : (x.kind == 1) with
                      | true =>
                        have E4 : Hid (T = (isBal x.bal && no)) := by
                          show _ = _
                          apply E3.out
                          have hk : x.kind = 1 := by simpa using k1
                          have l1 := L1.out; have s1 := S1.out; have s2 := S2.out; have s3 := S3.out; have s4 := S4.out; have no1 := NO.out; have ri1 := RI.out
                          simp [formOk, hk, l1, s1, s2, s3, s4, no1, ri1]
                        have k3 : (x.kind == 3) = false := by rw [show x.kind = 1 by simpa using k1]; rfl
                        have k4 : (x.kind == 4) = false := by rw [show x.kind = 1 by simpa using k1]; rfl
                        have k5 : (x.kind == 5) = false := by rw [show x.kind = 1 by simpa using k1]; rfl
                        have k6 : (x.kind == 6) = false := by rw [show x.kind = 1 by simpa using k1]; rfl
                        have k7 : (x.kind == 7) = false := by rw [show x.kind = 1 by simpa using k1]; rfl
                        have k8 : (x.kind == 8) = false := by rw [show x.kind = 1 by simpa using k1]; rfl
                        clear E3
                        go_wp2_with fail
                        refine (specBal x.bal w2).mono ?_
                        rintro e w3 ⟨rfl, rfl⟩
                        generalize isBal x.bal = ib at E4 ⊢
                        cases ib with
                        | false =>
                          have X : Hid (T = false) := by show _ = _; rw [E4.out]; rfl
                          go_wp2_with fail
                          go_ret
                          exact ⟨ret_bool X.out.symm, B2w.out⟩
                        | true =>
                          have X : Hid (T = no) := by show _ = _; rw [E4.out]; simp
                          go_wp2_with fail
                          go_ret
                          exact ⟨ret_bool X.out.symm, B2w.out⟩
                      | false =>
                        cases k3 : (x.kind == 3) with
                        | true =>
                          have E4 : Hid (T = (isBal x.bal && (true && decide (x.slot < 40)))) := by
                            show _ = _
                            apply E3.out
                            have hk : x.kind = 3 := by simpa using k3
                            have l1 := L1.out; have s1 := S1.out; have s2 := S2.out; have s3 := S3.out; have s4 := S4.out; have no1 := NO.out; have ri1 := RI.out
                            simp [formOk, hk, l1, s1, s2, s3, s4, no1, ri1]
                          have k4 : (x.kind == 4) = false := by rw [show x.kind = 3 by simpa using k3]; rfl
                          have k5 : (x.kind == 5) = false := by rw [show x.kind = 3 by simpa using k3]; rfl
                          have k6 : (x.kind == 6) = false := by rw [show x.kind = 3 by simpa using k3]; rfl
                          have k7 : (x.kind == 7) = false := by rw [show x.kind = 3 by simpa using k3]; rfl
                          have k8 : (x.kind == 8) = false := by rw [show x.kind = 3 by simpa using k3]; rfl
                          clear E3
                          go_wp2_with fail
                          refine (specBal x.bal w2).mono ?_
                          rintro e w3 ⟨rfl, rfl⟩
                          generalize isBal x.bal = ib at E4 ⊢
                          cases ib with
                          | false =>
                            have X : Hid (T = false) := by show _ = _; rw [E4.out]; rfl
                            go_wp2_with fail
                            go_ret
                            exact ⟨ret_bool X.out.symm, B2w.out⟩
                          | true =>
                            have X : Hid (T = decide (x.slot < 40)) := by show _ = _; rw [E4.out]; simp
                            go_wp2_with fail
                            go_ret
                            exact ⟨ret_bool X.out.symm, B2w.out⟩
                        | false =>
                          cases k4 : (x.kind == 4) with
                          | true =>
                            have E4 : Hid (T = (isBal x.bal && no)) := by
                              show _ = _
                              apply E3.out
                              have hk : x.kind = 4 := by simpa using k4
                              have l1 := L1.out; have s1 := S1.out; have s2 := S2.out; have s3 := S3.out; have s4 := S4.out; have no1 := NO.out; have ri1 := RI.out
                              simp [formOk, hk, l1, s1, s2, s3, s4, no1, ri1]
                            have k5 : (x.kind == 5) = false := by rw [show x.kind = 4 by simpa using k4]; rfl
                            have k6 : (x.kind == 6) = false := by rw [show x.kind = 4 by simpa using k4]; rfl
                            have k7 : (x.kind == 7) = false := by rw [show x.kind = 4 by simpa using k4]; rfl
                            have k8 : (x.kind == 8) = false := by rw [show x.kind = 4 by simpa using k4]; rfl
                            clear E3
                            go_wp2_with fail
                            refine (specBal x.bal w2).mono ?_
                            rintro e w3 ⟨rfl, rfl⟩
                            generalize isBal x.bal = ib at E4 ⊢
                            cases ib with
                            | false =>
                              have X : Hid (T = false) := by show _ = _; rw [E4.out]; rfl
                              go_wp2_with fail
                              go_ret
                              exact ⟨ret_bool X.out.symm, B2w.out⟩
                            | true =>
                              have X : Hid (T = no) := by show _ = _; rw [E4.out]; simp
                              go_wp2_with fail
                              go_ret
                              exact ⟨ret_bool X.out.symm, B2w.out⟩
                          | false =>
                            cases k5 : (x.kind == 5) with
                            | true =>
                              have E4 : Hid (T = (x.bal == 0 && (true && decide (x.slot < 40)))) := by
                                show _ = _
                                apply E3.out
                                have hk : x.kind = 5 := by simpa using k5
                                have l1 := L1.out; have s1 := S1.out; have s2 := S2.out; have s3 := S3.out; have s4 := S4.out; have no1 := NO.out; have ri1 := RI.out
                                simp [formOk, hk, l1, s1, s2, s3, s4, no1, ri1]
                              have k6 : (x.kind == 6) = false := by rw [show x.kind = 5 by simpa using k5]; rfl
                              have k7 : (x.kind == 7) = false := by rw [show x.kind = 5 by simpa using k5]; rfl
                              have k8 : (x.kind == 8) = false := by rw [show x.kind = 5 by simpa using k5]; rfl
                              clear E3
                              cases b0 : (x.bal == 0) with
                              | false =>
                                have X : Hid (T = false) := by show _ = _; rw [E4.out, b0]; rfl
                                go_wp2_with fail
                                go_ret
                                exact ⟨ret_bool X.out.symm, B2w.out⟩
                              | true =>
                                have X : Hid (T = decide (x.slot < 40)) := by show _ = _; rw [E4.out, b0]; simp
                                go_wp2_with fail
                                go_ret
                                exact ⟨ret_bool X.out.symm, B2w.out⟩
                            | false =>
                              cases k6 : (x.kind == 6) with
                              | true =>
                                have E4 : Hid (T = (isBal x.bal && no && x.slot == 0)) := by
                                  show _ = _
                                  apply E3.out
                                  have hk : x.kind = 6 := by simpa using k6
                                  have l1 := L1.out; have s1 := S1.out; have s2 := S2.out; have s3 := S3.out; have s4 := S4.out; have no1 := NO.out; have ri1 := RI.out
                                  simp [formOk, hk, l1, s1, s2, s3, s4, no1, ri1]
                                  try (cases isBal x.bal <;> cases no <;> simp)
                                have k7 : (x.kind == 7) = false := by rw [show x.kind = 6 by simpa using k6]; rfl
                                have k8 : (x.kind == 8) = false := by rw [show x.kind = 6 by simpa using k6]; rfl
                                clear E3
                                go_wp2_with fail
                                refine (specBal x.bal w2).mono ?_
                                rintro e w3 ⟨rfl, rfl⟩
                                generalize isBal x.bal = ib at E4 ⊢
                                cases ib with
                                | false =>
                                  have X : Hid (T = false) := by show _ = _; rw [E4.out]; rfl
                                  go_wp2_with fail
                                  go_ret
                                  exact ⟨ret_bool X.out.symm, B2w.out⟩
                                | true =>
                                  cases no with
                                  | false =>
                                    have X : Hid (T = false) := by show _ = _; rw [E4.out]; rfl
                                    go_wp2_with fail
                                    go_ret
                                    exact ⟨ret_bool X.out.symm, B2w.out⟩
                                  | true =>
                                    have X : Hid (T = (x.slot == 0)) := by show _ = _; rw [E4.out]; rfl
                                    go_wp2_with fail
                                    go_ret
                                    exact ⟨ret_bool X.out.symm, B2w.out⟩
                              | false =>
                                cases k7 : (x.kind == 7) with
                                | true =>
                                  have E4 : Hid (T = (x.bal == 0 && x.slot == 0 && true && !x.b.n)) := by
                                    show _ = _
                                    apply E3.out
                                    have hk : x.kind = 7 := by simpa using k7
                                    have l1 := L1.out; have s1 := S1.out; have s2 := S2.out; have s3 := S3.out; have s4 := S4.out; have no1 := NO.out; have ri1 := RI.out
                                    simp [formOk, hk, l1, s1, s2, s3, s4, no1, ri1]
                                  have k8 : (x.kind == 8) = false := by rw [show x.kind = 7 by simpa using k7]; rfl
                                  clear E3
                                  cases b0 : (x.bal == 0) with
                                  | false =>
                                    have X : Hid (T = false) := by show _ = _; rw [E4.out, b0]; rfl
                                    go_wp2_with fail
                                    go_ret
                                    exact ⟨ret_bool X.out.symm, B2w.out⟩
                                  | true =>
                                    cases s0 : (x.slot == 0) with
                                    | false =>
                                      have X : Hid (T = false) := by show _ = _; rw [E4.out, b0, s0]; rfl
                                      go_wp2_with fail
                                      go_ret
                                      exact ⟨ret_bool X.out.symm, B2w.out⟩
                                    | true =>
                                      have X : Hid (T = (true && !x.b.n)) := by show _ = _; rw [E4.out, b0, s0]; rfl
                                      have CR := CE.out w2 B2.out
                                      rw [RI.out] at CR
                                      have HCR : Hid (Calls _ _ _ _ _) := CR
                                      clear CR
                                      go_wp2_with fail
                                      refine Calls.mono HCR.out ?_
                                      rintro e w3 ⟨rfl, b3⟩
                                      have B3 : Hid (Below w.heap.size w w3) := B2w.out.trans (b3.mono B2w.out.size)
                                      obtain ⟨r0, r1, r2, r3, r4, r5, r6, r7, r8, r9, r10, r11, r12⟩ := (G0.out.keep (B2.out.trans (b3.mono B2.out.size))).cells13
                                      clear b3 q0 q1 q2 q3 q4 q5 q6 q7 q8 q9 q10 q11 q12
                                      go_wp2_with fail
                                      go_ret
                                      exact ⟨ret_bool X.out.symm, B3.out⟩
                                | false =>
                                  cases k8 : (x.kind == 8) with
                                  | true =>
                                    have E4 : Hid (T = (x.bal == 0 && no)) := by
                                      show _ = _
                                      apply E3.out
                                      have hk : x.kind = 8 := by simpa using k8
                                      have l1 := L1.out; have s1 := S1.out; have s2 := S2.out; have s3 := S3.out; have s4 := S4.out; have no1 := NO.out; have ri1 := RI.out
                                      simp [formOk, hk, l1, s1, s2, s3, s4, no1, ri1]
                                    clear E3
                                    cases b0 : (x.bal == 0) with
                                    | false =>
                                      have X : Hid (T = false) := by show _ = _; rw [E4.out, b0]; rfl
                                      go_wp2_with fail
                                      go_ret
                                      exact ⟨ret_bool X.out.symm, B2w.out⟩
                                    | true =>
                                      have X : Hid (T = no) := by show _ = _; rw [E4.out, b0]; simp
                                      go_wp2_with fail
                                      go_ret
                                      exact ⟨ret_bool X.out.symm, B2w.out⟩
                                  | false =>
                                    have X : Hid (T = false) := by
                                      show _ = _
                                      apply E3.out
                                      have g1 : x.kind ≠ 1 := by simpa using k1
                                      have g2 : x.kind ≠ 2 := by simpa using k2
                                      have g3 : x.kind ≠ 3 := by simpa using k3
                                      have g4 : x.kind ≠ 4 := by simpa using k4
                                      have g5 : x.kind ≠ 5 := by simpa using k5
                                      have g6 : x.kind ≠ 6 := by simpa using k6
                                      have g7 : x.kind ≠ 7 := by simpa using k7
                                      have g8 : x.kind ≠ 8 := by simpa using k8
                                      simp [formOk, g1, g2, g3, g4, g5, g6, g7, g8]
                                    clear E3
                                    go_wp2_with fail
                                    go_ret
                                    exact ⟨ret_bool X.out.symm, B2w.out⟩
end Go.Proofs.YtildonpdmmliaaaGreatDoor.Own

namespace Go.Proofs.YtildonpdmmliaaaGreatDoor.Own
open Go.RowKit Go.Sort
set_option linter.unusedVariables false
set_option linter.unusedSimpArgs false

theorem wpAnyH_monoM {P : Program} {ops : Array Oper} {Q : Exit → Act → World → Prop} {md : Region.Mode} {S S' : World → Prop} (h : ∀ w, S' w → S w) : ∀ (fuel : Nat) (listed : Array Bool) (a : Act) (w : World), wpAnyH P md ops Q S' fuel listed a w → wpAnyH P md ops Q S fuel listed a w
  | 0, _, _, _, h' => h'
  | fuel + 1, _, _, _, h' => ⟨h'.1, fun i hi => wpOp_mono (fun a' w' h2 => ⟨h _ h2.1, wpAnyH_monoM h fuel _ a' w' h2.2⟩) (h'.2 i hi)⟩

def wordRow : Array Value := #[.string (wordOf 0), .string (wordOf 1), .string (wordOf 2), .string (wordOf 3), .string (wordOf 4), .string (wordOf 5), .string (wordOf 6), .string (wordOf 7), .string (wordOf 8)]
theorem wordRow_at {κ : Nat} (h : κ < 9) : wordRow[κ]? = some (.string (wordOf (κ : Int))) := by
  match κ, h with
  | 0, _ | 1, _ | 2, _ | 3, _ | 4, _ | 5, _ | 6, _ | 7, _ | 8, _ => rfl

set_option maxHeartbeats 1000000 in
theorem l7WordsC (w : World) : Calls Tryz.prog 12 #[] w fun e w' => e = .returned (.slice (some ⟨w.heap.size, 0, none⟩) 9 9) ∧ w' = w.alloc (.cells wordRow 9) := by
  go_enter Tryz.func12, Tryz.ntmps12
  go_wp2
  go_ret
  exact ⟨rfl, rfl⟩

set_option maxRecDepth 100000 in
set_option maxHeartbeats 8000000 in
theorem specMsgText (x : MM) (w : World) (h : AtM w x) (f : FitM x) (wf : WfM x) (hs : x.b.xs.length + x.b.ys.length ≤ 2 ^ 21) (hv : ∀ i, i < x.vs.length → (x.vs.getD i v0).b.xs.length + (x.vs.getD i v0).b.ys.length ≤ 2 ^ 21) :
    Calls Tryz.prog 5 #[.agg #[.int .i64 x.kind, .int .i64 x.src, .int .i64 x.dst, .int .i64 x.bal, .int .i64 x.slot, .bool x.b.n, .int .i64 x.b.p, .int .i64 x.b.q, .slice x.a1 x.b.xs.length x.c1, .slice x.a2 x.b.ys.length x.c2, .int .i64 x.b.v, .int .i64 x.b.k, .slice x.a x.vs.length x.c]] w fun e w' => e = .returned (.string (str (msgText x))) ∧ Below w.heap.size w w' := by
  have H : Hid (AtM w x) := h
  obtain ⟨W, hW⟩ : ∃ W, W = w.alloc (.cells #[.int .i64 x.kind, .int .i64 x.src, .int .i64 x.dst, .int .i64 x.bal, .int .i64 x.slot, .bool x.b.n, .int .i64 x.b.p, .int .i64 x.b.q, .slice x.a1 x.b.xs.length x.c1, .slice x.a2 x.b.ys.length x.c2, .int .i64 x.b.v, .int .i64 x.b.k, .slice x.a x.vs.length x.c] 44) := ⟨_, rfl⟩
  have BW : Hid (Below w.heap.size w W) := by show Below _ _ _; rw [hW]; exact (Below.refl _ _).alloc (Nat.le_refl _) _
  have G0 : Hid (Blk W w.heap.size #[.int .i64 x.kind, .int .i64 x.src, .int .i64 x.dst, .int .i64 x.bal, .int .i64 x.slot, .bool x.b.n, .int .i64 x.b.p, .int .i64 x.b.q, .slice x.a1 x.b.xs.length x.c1, .slice x.a2 x.b.ys.length x.c2, .int .i64 x.b.v, .int .i64 x.b.k, .slice x.a x.vs.length x.c] 44) := by show Blk _ _ _ _; rw [hW]; exact Blk.new _ _ _
  have HW : Hid (W = _) := hW
  clear hW
  have CO : Hid (Calls Tryz.prog 11 #[.agg #[.int .i64 x.kind, .int .i64 x.src, .int .i64 x.dst, .int .i64 x.bal, .int .i64 x.slot, .bool x.b.n, .int .i64 x.b.p, .int .i64 x.b.q, .slice x.a1 x.b.xs.length x.c1, .slice x.a2 x.b.ys.length x.c2, .int .i64 x.b.v, .int .i64 x.b.k, .slice x.a x.vs.length x.c]] W fun e w' => e = .returned (.bool (msgOk x)) ∧ Below W.heap.size W w') := specMsgOk x W (h.below BW.out) f
  cases hok : msgOk x with
  | false =>
    have ET : Hid (msgText x = []) := by show _ = _; simp [msgText, hok]
    rw [ET.out]
    rw [hok] at CO
    obtain ⟨q0, q1, q2, q3, q4, q5, q6, q7, q8, q9, q10, q11, q12⟩ := G0.out.cells13
    clear h f wf hs hv hok
    go_enter Tryz.func5, Tryz.ntmps5
    go_wp2_with fail
    rw [← HW.out]
    refine Calls.mono CO.out ?_
    rintro e w1 ⟨rfl, b1⟩
    have B1 : Hid (Below w.heap.size w w1) := BW.out.trans (b1.mono BW.out.size)
    clear b1
    go_wp2_with fail
    go_ret
    exact ⟨rfl, B1.out⟩
  | true =>
    obtain ⟨κ, hκ⟩ : ∃ κ : Nat, x.kind = (κ : Int) := ⟨x.kind.toNat, by have := msgOk_kind hok; omega⟩
    have kr := msgOk_kind hok
    have kb1 : 1 ≤ κ := by omega
    have kb2 : κ ≤ 8 := by omega
    obtain ⟨v40, vno, vok⟩ := msgOk_votes hok
    obtain ⟨_, f1, f2, f3, f4, wb, wv⟩ := id wf
    obtain ⟨wd, hwd⟩ : ∃ wd, wd = wordOf x.kind := ⟨_, rfl⟩
    have wl : wd.size ≤ 9 := by rw [hwd, ← size_list]; exact word_len _
    obtain ⟨s1, e1⟩ : ∃ s, s = str (Lib.itoa x.src) := ⟨_, rfl⟩
    have z1 : s1.size ≤ 21 := by rw [e1, str_size]; exact itoa_len x.src f1
    have E1 : Hid (s1.data.toList = Lib.itoa x.src) := by show _ = _; rw [e1, str_list]
    have C1 : Hid (∀ V : World, Calls Tryz.prog 13 #[.int .i64 x.src] V fun e w' => e = .returned (.string s1) ∧ Below V.heap.size V w') := fun V => by rw [e1]; exact l15Dec x.src V f1.1 f1.2
    clear e1
    obtain ⟨s2, e2⟩ : ∃ s, s = str (Lib.itoa x.dst) := ⟨_, rfl⟩
    have z2 : s2.size ≤ 21 := by rw [e2, str_size]; exact itoa_len x.dst f2
    have E2 : Hid (s2.data.toList = Lib.itoa x.dst) := by show _ = _; rw [e2, str_list]
    have C2 : Hid (∀ V : World, Calls Tryz.prog 13 #[.int .i64 x.dst] V fun e w' => e = .returned (.string s2) ∧ Below V.heap.size V w') := fun V => by rw [e2]; exact l15Dec x.dst V f2.1 f2.2
    clear e2
    obtain ⟨s3, e3⟩ : ∃ s, s = str (Lib.itoa x.bal) := ⟨_, rfl⟩
    have z3 : s3.size ≤ 21 := by rw [e3, str_size]; exact itoa_len x.bal f3
    have E3 : Hid (s3.data.toList = Lib.itoa x.bal) := by show _ = _; rw [e3, str_list]
    have C3 : Hid (∀ V : World, Calls Tryz.prog 13 #[.int .i64 x.bal] V fun e w' => e = .returned (.string s3) ∧ Below V.heap.size V w') := fun V => by rw [e3]; exact l15Dec x.bal V f3.1 f3.2
    clear e3
    obtain ⟨s4, e4⟩ : ∃ s, s = str (Lib.itoa x.slot) := ⟨_, rfl⟩
    have z4 : s4.size ≤ 21 := by rw [e4, str_size]; exact itoa_len x.slot f4
    have E4 : Hid (s4.data.toList = Lib.itoa x.slot) := by show _ = _; rw [e4, str_list]
    have C4 : Hid (∀ V : World, Calls Tryz.prog 13 #[.int .i64 x.slot] V fun e w' => e = .returned (.string s4) ∧ Below V.heap.size V w') := fun V => by rw [e4]; exact l15Dec x.slot V f4.1 f4.2
    clear e4
    have n0 : ¬ 9223372036854775807 < wd.size + 1 := by omega
    have n1 : ¬ 9223372036854775807 < wd.size + 1 + s1.size := by omega
    have n2 : ¬ 9223372036854775807 < wd.size + 1 + s1.size + 1 := by omega
    have n3 : ¬ 9223372036854775807 < wd.size + 1 + s1.size + 1 + s2.size := by omega
    have n4 : ¬ 9223372036854775807 < wd.size + 1 + s1.size + 1 + s2.size + 1 := by omega
    have n5 : ¬ 9223372036854775807 < wd.size + 1 + s1.size + 1 + s2.size + 1 + s3.size := by omega
    have n6 : ¬ 9223372036854775807 < wd.size + 1 + s1.size + 1 + s2.size + 1 + s3.size + 1 := by omega
    have n7 : ¬ 9223372036854775807 < wd.size + 1 + s1.size + 1 + s2.size + 1 + s3.size + 1 + s4.size := by omega
    have HN : Hid (x.vs.length ≤ 40) := by show _ ≤ _; rw [← bodies_len]; exact v40
    have EH : Hid ((wd.data.toList ++ 32 :: Lib.itoa x.src) ++ 32 :: Lib.itoa x.dst ++ 32 :: Lib.itoa x.bal ++ 32 :: Lib.itoa x.slot = headM x) := by show _ = _; simp [headM, numText, hwd]
    have hl0 := headM_len x wf
    have HL0 : Hid ((headM x).length ≤ 97) := hl0
    have ET : Hid (msgText x = coreText x) := by show _ = _; simp [msgText, hok]
    have ETE : Hid (hasEnt x.kind = true → coreText x = headM x ++ (32 :: entText x.b)) := fun h => by
      have hk := hasEnt_iff.1 h
      have e : bodies x.vs = [] := vno (by omega)
      simp only [coreText, e, List.length_nil, votesTo, midM, h, if_true]
    have ETN : Hid (hasEnt x.kind = false → x.kind ≠ 2 → coreText x = headM x) := fun h h2 => by
      have e : bodies x.vs = [] := vno h2
      simp only [coreText, e, List.length_nil, votesTo, midM, h, Bool.false_eq_true, if_false]
    have ETV : Hid (x.kind = 2 → coreText x = votesTo (headM x) (bodies x.vs) x.vs.length) := fun h => by
      have h2 : hasEnt x.kind = false := by rw [← Bool.not_eq_true, hasEnt_iff]; omega
      simp only [coreText, midM, h2, Bool.false_eq_true, if_false, bodies_len]
    have VL : Hid (∀ j, j ≤ x.vs.length → (votesTo (headM x) (bodies x.vs) j).length ≤ 2 ^ 41) := fun j hj => by
      have h := votesTo_len (headM x) (bodies x.vs) wv (fun i hi => by rw [bodies_getD]; exact hv i (by rw [bodies_len] at hi; exact hi)) j (by rw [bodies_len]; exact hj)
      rw [bodies_len] at v40
      omega
    have VS : Hid (∀ j, votesTo (headM x) (bodies x.vs) (j + 1) = votesTo (headM x) (bodies x.vs) j ++ voteText (x.vs.getD j v0).body) := fun j => by show _ ++ _ = _; rw [bodies_getD]
    have VW : Hid (∀ j, j < x.vs.length → WfV (x.vs.getD j v0).body ∧ voteOk (x.vs.getD j v0).body = true ∧ (x.vs.getD j v0).b.xs.length + (x.vs.getD j v0).b.ys.length ≤ 2 ^ 21) := fun j hj => by
      have a := wv j (by rw [bodies_len]; exact hj)
      have b := vok j (by rw [bodies_len]; exact hj)
      rw [bodies_getD] at a b
      exact ⟨a, b, hv j hj⟩
    have elen := entText_len x.b wb
    have EL0 : Hid ((entText x.b).length ≤ 2 ^ 30) := by show _ ≤ _; omega
    have CEN : Hid (∀ w', Below W.heap.size W w' → Calls Tryz.prog 14 #[.agg #[.bool x.b.n, .int .i64 x.b.p, .int .i64 x.b.q, .slice x.a1 x.b.xs.length x.c1, .slice x.a2 x.b.ys.length x.c2, .int .i64 x.b.v, .int .i64 x.b.k]] w' fun e w'' => e = .returned (.string (str (entText x.b))) ∧ Below w'.heap.size w' w'') := fun w' hb => specMsgEntry x.b.n x.b.p x.b.q x.a1 x.a2 x.c1 x.c2 x.b.xs x.b.ys x.b.v x.b.k w' ((H.out.1.below BW.out).below hb) ((H.out.2.1.below BW.out).below hb) wb (by omega) (by omega)
    have VAT : Hid (∀ w', Below W.heap.size W w' → SlV w' x.a x.vs) := fun w' hb => (H.out.2.2.below BW.out).below hb
    rw [hok] at CO
    rw [ET.out]
    generalize coreText x = FIN at ETE ETN ETV ⊢
    generalize headM x = HD at EH HL0 ETE ETN ETV VL VS
    have HKN : Hid (x.kind = (κ : Int)) := hκ
    obtain ⟨q0, q1, q2, q3, q4, q5, q6, q7, q8, q9, q10, q11, q12⟩ := G0.out.cells13
    have HWD : Hid (wd = wordOf (κ : Int)) := by rw [← hκ]; exact hwd
    have hi9 : (κ : Int) < 9 := by omega
    have hi0 : ¬ (κ : Int) < 0 := by omega
    have hn9 : κ < 9 := by omega
    clear h f wf hs hv hok kr f1 f2 f3 f4 wb wv vno vok v40 hl0 elen hwd hκ kb1 kb2
    go_enter Tryz.func5, Tryz.ntmps5
    go_wp2_with fail
    rw [← HW.out]
    refine Calls.mono CO.out ?_
    rintro e X ⟨rfl, b1⟩
    have BX : Hid (Below W.heap.size W X) := b1
    have GX : Hid (Blk X w.heap.size _ _) := G0.out.keep b1
    clear b1 q0 q1 q2 q3 q4 q5 q6 q7 q8 q9 q10 q11 q12
    have HK : Hid (∀ w' : World, Below X.heap.size X w' → w'.cell? ⟨w.heap.size, 0, none⟩ = some (.int .i64 (κ : Int)) ∧ w'.cell? ⟨w.heap.size, 1, none⟩ = some (.int .i64 x.src) ∧ w'.cell? ⟨w.heap.size, 2, none⟩ = some (.int .i64 x.dst) ∧ w'.cell? ⟨w.heap.size, 3, none⟩ = some (.int .i64 x.bal) ∧ w'.cell? ⟨w.heap.size, 4, none⟩ = some (.int .i64 x.slot)) := by
      intro w' hb
      obtain ⟨q0, q1, q2, q3, q4, _⟩ := (GX.out.keep hb).cells13
      rw [HKN.out] at q0
      exact ⟨q0, q1, q2, q3, q4⟩
    have L2 : Hid (∀ V : World, Below X.heap.size X V → V.heap.size = X.heap.size → Calls Tryz.prog 12 #[] V fun e w' => e = .returned (.slice (some ⟨X.heap.size, 0, none⟩) 9 9) ∧ Below X.heap.size X w' ∧ w'.cell? ⟨X.heap.size, κ, none⟩ = some (.string wd) ∧ X.heap.size < w'.heap.size) := by
      intro V hV hs
      refine (l7WordsC V).mono ?_
      rintro e w' ⟨rfl, rfl⟩
      rw [← hs]
      exact ⟨rfl, by rw [hs]; exact hV.alloc hV.size _, by rw [cell_heap (heap_new _ _), wordRow_at hn9, HWD.out], by rw [size_new]; omega⟩
    go_upto_region 3 with fail
    refine wp_region_held_drew (S := (fun w' : World => w'.cell? ⟨w.heap.size, 0, none⟩ = some (.int .i64 (κ : Int)) ∧ w'.cell? ⟨w.heap.size, 1, none⟩ = some (.int .i64 x.src) ∧ w'.cell? ⟨w.heap.size, 2, none⟩ = some (.int .i64 x.dst) ∧ w'.cell? ⟨w.heap.size, 3, none⟩ = some (.int .i64 x.bal) ∧ w'.cell? ⟨w.heap.size, 4, none⟩ = some (.int .i64 x.slot))) (by kernel_rfl) (HK.out X.drew (Below.drew (Below.refl _ _))) (fun hHeld => ?_)
    refine wpAnyH_take (i := 1) (v := ?v1) rfl (by kernel_rfl) (by kernel_rfl) (by kernel_rfl) (fun _ _ _ h => h) (Or.inl ⟨by rfl, ?y1⟩) (by assumption) ?r1
    case y1 =>
      intro w' hSw
      try dsimp only at hSw
      go_simp
      try with_reducible rfl
    try simp only [Act.put, List.setIfInBounds_toArray, List.set_cons_zero, List.set_cons_succ]
    refine wpAnyH_take (i := 2) (v := ?v2) rfl (by kernel_rfl) (by kernel_rfl) (by kernel_rfl) (fun _ _ _ h => h) (Or.inl ⟨by rfl, ?y2⟩) (by assumption) ?r2
    case y2 =>
      intro w' hSw
      try dsimp only at hSw
      go_simp
      try with_reducible rfl
    try simp only [Act.put, List.setIfInBounds_toArray, List.set_cons_zero, List.set_cons_succ]
    refine wpAnyH_take (i := 6) (v := ?v6) rfl (by kernel_rfl) (by kernel_rfl) (by kernel_rfl) (fun _ _ _ h => h) (Or.inl ⟨by rfl, ?y6⟩) (by assumption) ?r6
    case y6 =>
      intro w' hSw
      try dsimp only at hSw
      go_simp
      try with_reducible rfl
    try simp only [Act.put, List.setIfInBounds_toArray, List.set_cons_zero, List.set_cons_succ]
    refine wpAnyH_take (i := 7) (v := ?v7) rfl (by kernel_rfl) (by kernel_rfl) (by kernel_rfl) (fun _ _ _ h => h) (Or.inl ⟨by rfl, ?y7⟩) (by assumption) ?r7
    case y7 =>
      intro w' hSw
      try dsimp only at hSw
      go_simp
      try with_reducible rfl
    try simp only [Act.put, List.setIfInBounds_toArray, List.set_cons_zero, List.set_cons_succ]
    refine wpAnyH_take (i := 11) (v := ?v11) rfl (by kernel_rfl) (by kernel_rfl) (by kernel_rfl) (fun _ _ _ h => h) (Or.inl ⟨by rfl, ?y11⟩) (by assumption) ?r11
    case y11 =>
      intro w' hSw
      try dsimp only at hSw
      go_simp
      try with_reducible rfl
    try simp only [Act.put, List.setIfInBounds_toArray, List.set_cons_zero, List.set_cons_succ]
    refine wpAnyH_take (i := 12) (v := ?v12) rfl (by kernel_rfl) (by kernel_rfl) (by kernel_rfl) (fun _ _ _ h => h) (Or.inl ⟨by rfl, ?y12⟩) (by assumption) ?r12
    case y12 =>
      intro w' hSw
      try dsimp only at hSw
      go_simp
      try with_reducible rfl
    try simp only [Act.put, List.setIfInBounds_toArray, List.set_cons_zero, List.set_cons_succ]
    refine wpAnyH_take (i := 16) (v := ?v16) rfl (by kernel_rfl) (by kernel_rfl) (by kernel_rfl) (fun _ _ _ h => h) (Or.inl ⟨by rfl, ?y16⟩) (by assumption) ?r16
    case y16 =>
      intro w' hSw
      try dsimp only at hSw
      go_simp
      try with_reducible rfl
    try simp only [Act.put, List.setIfInBounds_toArray, List.set_cons_zero, List.set_cons_succ]
    refine wpAnyH_take (i := 17) (v := ?v17) rfl (by kernel_rfl) (by kernel_rfl) (by kernel_rfl) (fun _ _ _ h => h) (Or.inl ⟨by rfl, ?y17⟩) (by assumption) ?r17
    case y17 =>
      intro w' hSw
      try dsimp only at hSw
      go_simp
      try with_reducible rfl
    try simp only [Act.put, List.setIfInBounds_toArray, List.set_cons_zero, List.set_cons_succ]
    refine wpAnyH_take (i := 21) (v := ?v21) rfl (by kernel_rfl) (by kernel_rfl) (by kernel_rfl) (fun _ _ _ h => h) (Or.inl ⟨by rfl, ?y21⟩) (by assumption) ?r21
    case y21 =>
      intro w' hSw
      try dsimp only at hSw
      go_simp
      try with_reducible rfl
    try simp only [Act.put, List.setIfInBounds_toArray, List.set_cons_zero, List.set_cons_succ]
    refine wpAnyH_take (i := 22) (v := ?v22) rfl (by kernel_rfl) (by kernel_rfl) (by kernel_rfl) (fun _ _ _ h => h) (Or.inl ⟨by rfl, ?y22⟩) (by assumption) ?r22
    case y22 =>
      intro w' hSw
      try dsimp only at hSw
      go_simp
      try with_reducible rfl
    try simp only [Act.put, List.setIfInBounds_toArray, List.set_cons_zero, List.set_cons_succ]
    refine wpAnyH_ready (rs := [0]) (by kernel_rfl) (by simp) ?_
    refine AllReadyH.cons rfl (fun K hK => ?_) AllReadyH.nil
    go_simp
    refine (L2.out _ (Below.drew (Below.refl _ _)) rfl).mono ?_
    rintro e w1 ⟨rfl, hb1, hword, hlt1⟩
    have hB1 : Hid (Below X.heap.size X w1) := hb1
    have hlt : Hid (X.heap.size < w1.heap.size) := hlt1
    have hK1 := HK.out w1 hb1
    refine hK.out _ _ hK1 (fun hHeld1 => ?_)
    clear hK K hHeld hHeld1 hb1 hlt1
    refine wpAnyH_monoM (S' := (fun w' : World => w'.cell? ⟨X.heap.size, κ, none⟩ = some (.string wd) ∧ w'.cell? ⟨w.heap.size, 0, none⟩ = some (.int .i64 (κ : Int)) ∧ w'.cell? ⟨w.heap.size, 1, none⟩ = some (.int .i64 x.src) ∧ w'.cell? ⟨w.heap.size, 2, none⟩ = some (.int .i64 x.dst) ∧ w'.cell? ⟨w.heap.size, 3, none⟩ = some (.int .i64 x.bal) ∧ w'.cell? ⟨w.heap.size, 4, none⟩ = some (.int .i64 x.slot))) (fun _ h => h.2) _ _ _ _ ?_
    have hHeld : (fun w' : World => w'.cell? ⟨X.heap.size, κ, none⟩ = some (.string wd) ∧ w'.cell? ⟨w.heap.size, 0, none⟩ = some (.int .i64 (κ : Int)) ∧ w'.cell? ⟨w.heap.size, 1, none⟩ = some (.int .i64 x.src) ∧ w'.cell? ⟨w.heap.size, 2, none⟩ = some (.int .i64 x.dst) ∧ w'.cell? ⟨w.heap.size, 3, none⟩ = some (.int .i64 x.bal) ∧ w'.cell? ⟨w.heap.size, 4, none⟩ = some (.int .i64 x.slot)) w1 := ⟨hword, hK1⟩
    clear hword hK1
    refine wpAnyH_take (i := 3) (v := ?v3) rfl (by kernel_rfl) (by kernel_rfl) (by kernel_rfl) (fun _ _ _ h => h) (Or.inl ⟨by rfl, ?y3⟩) (by assumption) ?r3
    case y3 =>
      intro w' hSw
      try dsimp only at hSw
      go_simp
      try with_reducible rfl
    try simp only [Act.put, List.setIfInBounds_toArray, List.set_cons_zero, List.set_cons_succ]
    refine wpAnyH_take (i := 4) (v := ?v4) rfl (by kernel_rfl) (by kernel_rfl) (by kernel_rfl) (fun _ _ _ h => h) (Or.inl ⟨by rfl, ?y4⟩) (by assumption) ?r4
    case y4 =>
      intro w' hSw
      try dsimp only at hSw
      go_simp
      try with_reducible rfl
    try simp only [Act.put, List.setIfInBounds_toArray, List.set_cons_zero, List.set_cons_succ]
    refine wpAnyH_take (i := 5) (v := ?v5) rfl (by kernel_rfl) (by kernel_rfl) (by kernel_rfl) (fun _ _ _ h => h) (Or.inl ⟨by rfl, ?y5⟩) (by assumption) ?r5
    case y5 =>
      intro w' hSw
      try dsimp only at hSw
      go_simp
      try with_reducible rfl
    try simp only [Act.put, List.setIfInBounds_toArray, List.set_cons_zero, List.set_cons_succ]
    refine wpAnyH_ready (rs := [8]) (by kernel_rfl) (by simp) ?_
    refine AllReadyH.cons rfl (fun K hK => ?_) AllReadyH.nil
    go_simp
    refine (C1.out _).mono ?_
    rintro e w2 ⟨rfl, hb2⟩
    have hB2 : Hid (Below X.heap.size X w2) := hB1.out.trans (hb2.mono hB1.out.size)
    have hl2 : Hid (X.heap.size < w2.heap.size) := Nat.lt_of_lt_of_le hlt.out hb2.size
    have hw2 : w2.cell? ⟨X.heap.size, κ, none⟩ = some (.string wd) := by rw [hb2.cell (p := ⟨X.heap.size, κ, none⟩) hlt.out]; exact hHeld.1
    refine hK.out _ _ ⟨hw2, HK.out w2 hB2.out⟩ (fun hHeld2 => ?_)
    clear hK K hHeld hb2 hw2
    refine wpAnyH_take (i := 9) (v := ?v9) rfl (by kernel_rfl) (by kernel_rfl) (by kernel_rfl) (fun _ _ _ h => h) (Or.inl ⟨by rfl, ?y9⟩) (by assumption) ?r9
    case y9 =>
      intro w' hSw
      try dsimp only at hSw
      go_simp
      try with_reducible rfl
    try simp only [Act.put, List.setIfInBounds_toArray, List.set_cons_zero, List.set_cons_succ]
    refine wpAnyH_take (i := 10) (v := ?v10) rfl (by kernel_rfl) (by kernel_rfl) (by kernel_rfl) (fun _ _ _ h => h) (Or.inl ⟨by rfl, ?y10⟩) (by assumption) ?r10
    case y10 =>
      intro w' hSw
      try dsimp only at hSw
      go_simp
      try with_reducible rfl
    try simp only [Act.put, List.setIfInBounds_toArray, List.set_cons_zero, List.set_cons_succ]
    refine wpAnyH_ready (rs := [13]) (by kernel_rfl) (by simp) ?_
    refine AllReadyH.cons rfl (fun K hK => ?_) AllReadyH.nil
    go_simp
    refine (C2.out _).mono ?_
    rintro e w3 ⟨rfl, hb3⟩
    have hB3 : Hid (Below X.heap.size X w3) := hB2.out.trans (hb3.mono hB2.out.size)
    have hl3 : Hid (X.heap.size < w3.heap.size) := Nat.lt_of_lt_of_le hl2.out hb3.size
    have hw3 : w3.cell? ⟨X.heap.size, κ, none⟩ = some (.string wd) := by rw [hb3.cell (p := ⟨X.heap.size, κ, none⟩) hl2.out]; exact hHeld2.1
    refine hK.out _ _ ⟨hw3, HK.out w3 hB3.out⟩ (fun hHeld3 => ?_)
    clear hK K hHeld2 hb3 hw3
    refine wpAnyH_take (i := 14) (v := ?v14) rfl (by kernel_rfl) (by kernel_rfl) (by kernel_rfl) (fun _ _ _ h => h) (Or.inl ⟨by rfl, ?y14⟩) (by assumption) ?r14
    case y14 =>
      intro w' hSw
      try dsimp only at hSw
      go_simp
      try with_reducible rfl
    try simp only [Act.put, List.setIfInBounds_toArray, List.set_cons_zero, List.set_cons_succ]
    refine wpAnyH_take (i := 15) (v := ?v15) rfl (by kernel_rfl) (by kernel_rfl) (by kernel_rfl) (fun _ _ _ h => h) (Or.inl ⟨by rfl, ?y15⟩) (by assumption) ?r15
    case y15 =>
      intro w' hSw
      try dsimp only at hSw
      go_simp
      try with_reducible rfl
    try simp only [Act.put, List.setIfInBounds_toArray, List.set_cons_zero, List.set_cons_succ]
    refine wpAnyH_ready (rs := [18]) (by kernel_rfl) (by simp) ?_
    refine AllReadyH.cons rfl (fun K hK => ?_) AllReadyH.nil
    go_simp
    refine (C3.out _).mono ?_
    rintro e w4 ⟨rfl, hb4⟩
    have hB4 : Hid (Below X.heap.size X w4) := hB3.out.trans (hb4.mono hB3.out.size)
    have hl4 : Hid (X.heap.size < w4.heap.size) := Nat.lt_of_lt_of_le hl3.out hb4.size
    have hw4 : w4.cell? ⟨X.heap.size, κ, none⟩ = some (.string wd) := by rw [hb4.cell (p := ⟨X.heap.size, κ, none⟩) hl3.out]; exact hHeld3.1
    refine hK.out _ _ ⟨hw4, HK.out w4 hB4.out⟩ (fun hHeld4 => ?_)
    clear hK K hHeld3 hb4 hw4
    refine wpAnyH_take (i := 19) (v := ?v19) rfl (by kernel_rfl) (by kernel_rfl) (by kernel_rfl) (fun _ _ _ h => h) (Or.inl ⟨by rfl, ?y19⟩) (by assumption) ?r19
    case y19 =>
      intro w' hSw
      try dsimp only at hSw
      go_simp
      try with_reducible rfl
    try simp only [Act.put, List.setIfInBounds_toArray, List.set_cons_zero, List.set_cons_succ]
    refine wpAnyH_take (i := 20) (v := ?v20) rfl (by kernel_rfl) (by kernel_rfl) (by kernel_rfl) (fun _ _ _ h => h) (Or.inl ⟨by rfl, ?y20⟩) (by assumption) ?r20
    case y20 =>
      intro w' hSw
      try dsimp only at hSw
      go_simp
      try with_reducible rfl
    try simp only [Act.put, List.setIfInBounds_toArray, List.set_cons_zero, List.set_cons_succ]
    refine wpAnyH_ready (rs := [23]) (by kernel_rfl) (by simp) ?_
    refine AllReadyH.cons rfl (fun K hK => ?_) AllReadyH.nil
    go_simp
    refine (C4.out _).mono ?_
    rintro e w5 ⟨rfl, hb5⟩
    have hB5 : Hid (Below X.heap.size X w5) := hB4.out.trans (hb5.mono hB4.out.size)
    have hl5 : Hid (X.heap.size < w5.heap.size) := Nat.lt_of_lt_of_le hl4.out hb5.size
    have hw5 : w5.cell? ⟨X.heap.size, κ, none⟩ = some (.string wd) := by rw [hb5.cell (p := ⟨X.heap.size, κ, none⟩) hl4.out]; exact hHeld4.1
    refine hK.out _ _ ⟨hw5, HK.out w5 hB5.out⟩ (fun hHeld5 => ?_)
    clear hK K hHeld4 hb5 hw5
    refine wpAnyH_take (i := 24) (v := ?v24) rfl (by kernel_rfl) (by kernel_rfl) (by kernel_rfl) (fun _ _ _ h => h) (Or.inl ⟨by rfl, ?y24⟩) (by assumption) ?r24
    case y24 =>
      intro w' hSw
      try dsimp only at hSw
      go_simp
      try with_reducible rfl
    simp only [Act.put, List.getElem_toArray, List.getElem_cons_succ, List.getElem_cons_zero, List.setIfInBounds_toArray, List.set_cons_zero, List.set_cons_succ]
    refine wpAnyH_take (i := 25) (v := ?v25) rfl (by kernel_rfl) (by kernel_rfl) (by kernel_rfl) (fun _ _ _ h => h) (Or.inl ⟨by rfl, ?y25⟩) (by assumption) ?r25
    case y25 =>
      intro w' hSw
      try dsimp only at hSw
      go_simp
      try with_reducible rfl
    simp only [Act.put, List.getElem_toArray, List.getElem_cons_succ, List.getElem_cons_zero, List.setIfInBounds_toArray, List.set_cons_zero, List.set_cons_succ]
    refine wpAnyH_done (by kernel_rfl) ?_ _
    refine ?_
    obtain ⟨V, hV⟩ : ∃ V, V = w5 := ⟨_, rfl⟩
    rw [← hV]
    have BV : Hid (Below X.heap.size X V) := by show Below _ _ _; rw [hV]; exact hB5.out
    clear hHeld5 hV
    obtain ⟨T0, hT0⟩ : ∃ t : ByteArray, t = wd ++ ⟨#[32]⟩ ++ s1 ++ ⟨#[32]⟩ ++ s2 ++ ⟨#[32]⟩ ++ s3 ++ ⟨#[32]⟩ ++ s4 := ⟨_, rfl⟩
    have TT : Hid (T0.data.toList = HD) := by
      show _ = _
      rw [hT0, ← EH.out]
      simp [list_append, E1.out, E2.out, E3.out, E4.out]
    rw [← hT0]
    clear hT0
    have tl : T0.size ≤ 97 := by rw [← size_list, TT.out]; exact HL0.out
    have BWV : Hid (Below W.heap.size W V) := BX.out.trans (BV.out.mono BX.out.size)
    obtain ⟨q0, _, _, _, _⟩ := HK.out V BV.out
    have q5 := ((GX.out.keep BV.out).cells13).2.2.2.2.2
    obtain ⟨q5, q6, q7, q8, q9, q10, q11, q12⟩ := q5
    clear n0 n1 n2 n3 n4 n5 n6 n7 z1 z2 z3 z4 wl
    have t0 : ¬ 9223372036854775807 < T0.size + 1 := by omega
    have tE : ¬ 9223372036854775807 < T0.size + 1 + (str (entText x.b)).size := by rw [str_size]; have := EL0.out; omega
    by_cases k3 : κ = 3
    · have XE : Hid (FIN = HD ++ (32 :: entText x.b)) := ETE.out (hasEnt_iff.2 (by rw [HKN.out, k3]; decide))
      have e3 : ((κ : Int) == 3) = true := by rw [k3]; rfl
      have e5 : ((κ : Int) == 5) = false := by rw [k3]; rfl
      have e7 : ((κ : Int) == 7) = false := by rw [k3]; rfl
      clear ETE ETN ETV k3
      go_wp2_with fail
      refine (CEN.out V BWV.out).mono ?_
      rintro e w6 ⟨rfl, b6⟩
      have B6 : Hid (Below W.heap.size W w6) := BWV.out.trans (b6.mono BWV.out.size)
      clear b6 q0 q5 q6 q7 q8 q9 q10 q11 q12
      go_wp2_with fail
      go_ret
      exact ⟨ret_str (str_eq (by rw [XE.out]; simp [list_append, str_list, TT.out])), BW.out.trans (B6.out.mono BW.out.size)⟩
    by_cases k5 : κ = 5
    · have XE : Hid (FIN = HD ++ (32 :: entText x.b)) := ETE.out (hasEnt_iff.2 (by rw [HKN.out, k5]; decide))
      have e3 : ((κ : Int) == 3) = false := by rw [k5]; rfl
      have e5 : ((κ : Int) == 5) = true := by rw [k5]; rfl
      have e7 : ((κ : Int) == 7) = false := by rw [k5]; rfl
      clear ETE ETN ETV k5
      go_wp2_with fail
      refine (CEN.out V BWV.out).mono ?_
      rintro e w6 ⟨rfl, b6⟩
      have B6 : Hid (Below W.heap.size W w6) := BWV.out.trans (b6.mono BWV.out.size)
      clear b6 q0 q5 q6 q7 q8 q9 q10 q11 q12
      go_wp2_with fail
      go_ret
      exact ⟨ret_str (str_eq (by rw [XE.out]; simp [list_append, str_list, TT.out])), BW.out.trans (B6.out.mono BW.out.size)⟩
    by_cases k7 : κ = 7
    · have XE : Hid (FIN = HD ++ (32 :: entText x.b)) := ETE.out (hasEnt_iff.2 (by rw [HKN.out, k7]; decide))
      have e3 : ((κ : Int) == 3) = false := by rw [k7]; rfl
      have e5 : ((κ : Int) == 5) = false := by rw [k7]; rfl
      have e7 : ((κ : Int) == 7) = true := by rw [k7]; rfl
      clear ETE ETN ETV k7
      go_wp2_with fail
      refine (CEN.out V BWV.out).mono ?_
      rintro e w6 ⟨rfl, b6⟩
      have B6 : Hid (Below W.heap.size W w6) := BWV.out.trans (b6.mono BWV.out.size)
      clear b6 q0 q5 q6 q7 q8 q9 q10 q11 q12
      go_wp2_with fail
      go_ret
      exact ⟨ret_str (str_eq (by rw [XE.out]; simp [list_append, str_list, TT.out])), BW.out.trans (B6.out.mono BW.out.size)⟩
    have e3 : ((κ : Int) == 3) = false := beq_eq_false_iff_ne.2 (by omega)
    have e5 : ((κ : Int) == 5) = false := beq_eq_false_iff_ne.2 (by omega)
    have e7 : ((κ : Int) == 7) = false := beq_eq_false_iff_ne.2 (by omega)
    by_cases k2 : κ = 2
    · have XV : Hid (FIN = votesTo HD (bodies x.vs) x.vs.length) := ETV.out (by rw [HKN.out, k2]; rfl)
      have e2 : ((κ : Int) == 2) = true := by rw [k2]; rfl
      clear k2 k3 k5 k7 ETE ETN ETV
      have V0 : Hid (votesTo HD (bodies x.vs) 0 = HD) := rfl
      generalize votesTo HD (bodies x.vs) = VT at XV VL VS V0
      go_wp2_with fail
      clear q0 q5 q6 q7 q8 q9 q10 q11 q12 t0 tE
      go_loopw [3, 4] (fun out i wr => ∃ (j : Nat) (s : ByteArray), j ≤ x.vs.length ∧ i = .int .i64 j ∧ out = .string s ∧ Hid (s.data.toList = VT j) ∧ Hid (Below W.heap.size W wr)) (fun _ i _ => x.vs.length - (intOf i).toNat)
      case atStart => exact ⟨0, T0, Nat.zero_le _, rfl, rfl, by show _ = _; rw [TT.out, V0.out], BWV.out⟩
      case round =>
        obtain ⟨j, s, hj, rfl, rfl, SR, KR⟩ := hrel
        have hn40 := HN.out
        have q12 := ((G0.out.keep KR.out).cells13).2.2.2.2.2.2.2.2.2.2.2.2
        by_cases hlt : j < x.vs.length
        · have hji : (j : Int) < (x.vs.length : Int) := by omega
          have hsl : s.size ≤ 2 ^ 41 := by rw [← size_list, SR.out]; exact VL.out j hj
          rcases VAT.out wr KR.out with hh | ⟨b1, o1, ha, hb1, hh⟩
          · rw [hh] at hlt; simp at hlt
          obtain ⟨⟨d0, d1, d2, d3, d4, d5, d6, d7⟩, st1, st2⟩ := hh j hlt
          obtain ⟨wv, ov, lv⟩ := VW.out j hlt
          have NX : Hid (VT j ++ voteText (x.vs.getD j v0).body = VT (j + 1)) := (VS.out j).symm
          have hb1W : Hid (∀ w' o, Below wr.heap.size wr w' → w'.cell? ⟨b1, o, none⟩ = wr.cell? ⟨b1, o, none⟩) := fun w' o hb => hb.cell (p := ⟨b1, o, none⟩) hb1
          have ST : Hid (∀ w', Below wr.heap.size wr w' → Sl w' (x.vs.getD j v0).a1 (x.vs.getD j v0).b.xs ∧ Sl w' (x.vs.getD j v0).a2 (x.vs.getD j v0).b.ys) := fun w' hb => ⟨st1.below hb, st2.below hb⟩
          clear hh st1 st2 hb1
          generalize x.vs.getD j v0 = y at d0 d1 d2 d3 d4 d5 d6 d7 wv ov lv NX ST
          have pos := voteOk_pos ov
          obtain ⟨t1, e1⟩ : ∃ s, s = str (Lib.itoa y.bal) := ⟨_, rfl⟩
          have z1 : t1.size ≤ 21 := by rw [e1, str_size]; exact itoa_len y.bal wv.1
          have T1 : Hid (t1.data.toList = Lib.itoa y.bal) := by show _ = _; rw [e1, str_list]
          have CD : Hid (∀ w', Calls Tryz.prog 13 #[.int .i64 y.bal] w' fun e w'' => e = .returned (.string t1) ∧ Below w'.heap.size w' w'') := fun w' => by rw [e1]; exact l15Dec y.bal w' wv.1.1 wv.1.2
          clear e1
          have etl := entText_len y.b wv.2
          obtain ⟨t2, e2'⟩ : ∃ s, s = str (entText y.b) := ⟨_, rfl⟩
          have z2 : t2.size ≤ 2 ^ 40 := by rw [e2', str_size]; omega
          have T2 : Hid (t2.data.toList = entText y.b) := by show _ = _; rw [e2', str_list]
          have CE : Hid (∀ w', Below wr.heap.size wr w' → Calls Tryz.prog 14 #[.agg #[.bool y.b.n, .int .i64 y.b.p, .int .i64 y.b.q, .slice y.a1 y.b.xs.length y.c1, .slice y.a2 y.b.ys.length y.c2, .int .i64 y.b.v, .int .i64 y.b.k]] w' fun e w'' => e = .returned (.string t2) ∧ Below w'.heap.size w' w'') := fun w' hb => by rw [e2']; exact specMsgEntry y.b.n y.b.p y.b.q y.a1 y.a2 y.c1 y.c2 y.b.xs y.b.ys y.b.v y.b.k w' (ST.out w' hb).1 (ST.out w' hb).2 wv.2 (by omega) (by omega)
          clear e2' etl wv ov lv
          have p0 : ¬ 9223372036854775807 < s.size + 1 := by omega
          have p1 : ¬ 9223372036854775807 < s.size + 1 + t1.size := by omega
          have HA : Hid (x.a = _) := ha
          clear ha
          rw [HA.out] at q12
          go_wp2_with fail
          refine (CD.out wr).mono ?_
          rintro e w6 ⟨rfl, b6⟩
          have L6 : Hid (Below wr.heap.size wr w6) := b6
          have B6 : Hid (Below W.heap.size W w6) := KR.out.trans (b6.mono KR.out.size)
          clear b6
          rw [← hb1W.out w6 _ L6.out] at d0 d1 d2 d3 d4 d5 d6 d7
          clear q12
          have q12 := ((G0.out.keep B6.out).cells13).2.2.2.2.2.2.2.2.2.2.2.2
          rw [HA.out] at q12
          by_cases hpos : 0 < y.bal
          · have XN : Hid ((s ++ ⟨#[32]⟩ ++ t1 ++ t2).data.toList = VT (j + 1)) := by
              show _ = _
              rw [← NX.out]
              have h0 : y.bal ≠ 0 := by omega
              simp [list_append, SR.out, T1.out, T2.out, numText, voteText, VM.body, h0]
            have p2 : ¬ 9223372036854775807 < s.size + 1 + t1.size + t2.size := by omega
            clear pos
            go_wp2_with fail
            refine (CE.out w6 L6.out).mono ?_
            rintro e w7 ⟨rfl, b7⟩
            have B7 : Hid (Below W.heap.size W w7) := B6.out.trans (b7.mono B6.out.size)
            clear b7 q12 d0 d1 d2 d3 d4 d5 d6 d7
            go_wp2_with fail
            go_roundw
            case rel => exact ⟨j + 1, _, by omega, by go_num, rfl, XN.out, B7.out⟩
            case measure => simp [intOf]; omega
          · have XN : Hid ((s ++ ⟨#[32]⟩ ++ t1).data.toList = VT (j + 1)) := by
              show _ = _
              rw [← NX.out]
              have h0 : y.bal = 0 := by rcases pos with h | h; exact h; exact absurd h hpos
              simp [list_append, SR.out, T1.out, numText, voteText, VM.body, h0]
            clear pos
            go_wp2_with fail
            clear q12 d0 d1 d2 d3 d4 d5 d6 d7
            go_roundw
            case rel => exact ⟨j + 1, _, by omega, by go_num, rfl, XN.out, B6.out⟩
            case measure => simp [intOf]; omega
        · have hji : ¬ (j : Int) < (x.vs.length : Int) := by omega
          obtain rfl : j = x.vs.length := by omega
          go_wp2_with fail
          go_ret
          exact ⟨ret_str (str_eq (by rw [XV.out, SR.out])), BW.out.trans (KR.out.mono BW.out.size)⟩
    · have XN : Hid (FIN = HD) := ETN.out (by rw [← Bool.not_eq_true, hasEnt_iff, HKN.out]; omega) (by rw [HKN.out]; omega)
      have e2 : ((κ : Int) == 2) = false := beq_eq_false_iff_ne.2 (by omega)
      clear k2 k3 k5 k7 ETE ETN ETV
      go_wp2_with fail
      go_ret
      exact ⟨ret_str (str_eq (by rw [XN.out, TT.out])), BW.out.trans (BWV.out.mono BW.out.size)⟩
end Go.Proofs.YtildonpdmmliaaaGreatDoor.Own
