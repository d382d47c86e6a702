/-
  Own texts, bundled: MsgOkS.
-/
import Derived.Test.YtbbbfnfpmaogoaaPk8
import Derived.Test.YtbbbfnfpmaogoaaPk10
namespace Go.Proofs.Ytbbbfnfpmaogoaa.Own
open Go.RowKit
set_option linter.unusedVariables false
set_option linter.unusedSimpArgs false

set_option maxRecDepth 100000 in
set_option maxHeartbeats 1000000 in
theorem specNone (n : Bool) (p q : Int) (a1 a2 : Option Addr) (c1 c2 : Nat) (xs ys : List P2) (v k : Int) (w : World) (h1 : Sl w a1 xs) (h2 : Sl w a2 ys) (n1 : xs.length ≤ 2 ^ 40) (n2 : ys.length ≤ 2 ^ 40) :
    Calls Try.prog 95 #[.agg #[.bool n, .int .i64 p, .int .i64 q, .slice a1 xs.length c1, .slice a2 ys.length c2, .int .i64 v, .int .i64 k]] w fun e w' => e = .returned (.bool (noneE ⟨n, p, q, xs, ys, v, k⟩)) ∧ Below w.heap.size w w' := by
  have H1 : Hid (Sl w a1 xs) := h1
  have H2 : Hid (Sl w a2 ys) := h2
  clear h1 h2
  obtain ⟨W, hW⟩ : ∃ W, W = w.alloc (.cells #[.bool n, .int .i64 p, .int .i64 q, .slice a1 xs.length c1, .slice a2 ys.length c2, .int .i64 v, .int .i64 k] 34) := ⟨_, rfl⟩
  have BW : Hid (Below w.heap.size w W) := by show Below _ _ _; rw [hW]; exact (Below.refl _ _).alloc (Nat.le_refl _) _
  have HW : Hid (W = _) := hW
  clear hW
  have hq := fun w => eqlReq p q 0 0 w
  cases n with
  | true =>
    rw [noneE_none]
    go_enter Try.func95, Try.ntmps95
    go_wp2_with fail
    go_ret
    exact ⟨rfl, by rw [← HW.out]; exact BW.out⟩
  | false =>
    cases he : eq2 (p, q) (0, 0) with
    | false =>
      rw [noneE_req _ _ _ _ _ he]
      rw [he] at hq
      go_enter Try.func95, Try.ntmps95
      go_wp2_with fail
      go_ret
      exact ⟨rfl, by rw [← HW.out]; exact BW.out⟩
    | true =>
      rw [noneE_run _ _ _ _ he]
      rw [he] at hq
      go_enter Try.func95, Try.ntmps95
      go_wp2_with fail
      rw [← HW.out]
      refine (specExecSame a1 a2 none none c1 c2 0 0 xs ys [] [] v k 0 0 W (H1.out.below BW.out) (H2.out.below BW.out) (.inl rfl) (.inl rfl) n1 n2 (by simp) (by simp)).mono ?_
      rintro e w1 ⟨rfl, b1'⟩
      have B1 : Hid (Below w.heap.size w w1) := BW.out.trans (b1'.mono BW.out.size)
      clear b1'
      generalize hr : sameRun xs ys [] [] v k 0 0 = r
      have HR : Hid (_ = r) := hr
      clear hr
      go_wp2_with fail
      go_ret
      exact ⟨ret_bool HR.out.symm, B1.out⟩

set_option maxRecDepth 100000 in
set_option maxHeartbeats 4000000 in
theorem specMsgOk (x : MM) (w : World) (h : AtM w x) (f : FitM x) :
    Calls Try.prog 42 #[.agg #[.int .i64 x.kind, .int .i64 x.src, .int .i64 x.dst, .int .i64 x.bal, .int .i64 x.slot, .bool x.b.n, .int .i64 x.b.p, .int .i64 x.b.q, .slice x.a1 x.b.xs.length x.c1, .slice x.a2 x.b.ys.length x.c2, .int .i64 x.b.v, .int .i64 x.b.k, .slice x.a x.vs.length x.c]] w fun e w' => e = .returned (.bool (msgOk x)) ∧ Below w.heap.size w w' := by
  have H : Hid (AtM w x) := h
  have F : Hid (FitM x) := f
  clear h f
  have E : Hid (msgOk x = (nodeId x.src && nodeId x.dst && x.src != x.dst && formOk x.kind x.bal x.slot x.b (bodies x.vs))) := rfl
  generalize msgOk x = T at E ⊢
  obtain ⟨W, hW⟩ : ∃ W, W = w.alloc (.cells #[.int .i64 x.kind, .int .i64 x.src, .int .i64 x.dst, .int .i64 x.bal, .int .i64 x.slot, .bool x.b.n, .int .i64 x.b.p, .int .i64 x.b.q, .slice x.a1 x.b.xs.length x.c1, .slice x.a2 x.b.ys.length x.c2, .int .i64 x.b.v, .int .i64 x.b.k, .slice x.a x.vs.length x.c] 78) := ⟨_, rfl⟩
  have BW : Hid (Below w.heap.size w W) := by show Below _ _ _; rw [hW]; exact (Below.refl _ _).alloc (Nat.le_refl _) _
  have G0 : Hid (Blk W w.heap.size #[.int .i64 x.kind, .int .i64 x.src, .int .i64 x.dst, .int .i64 x.bal, .int .i64 x.slot, .bool x.b.n, .int .i64 x.b.p, .int .i64 x.b.q, .slice x.a1 x.b.xs.length x.c1, .slice x.a2 x.b.ys.length x.c2, .int .i64 x.b.v, .int .i64 x.b.k, .slice x.a x.vs.length x.c] 78) := by show Blk _ _ _ _; rw [hW]; exact Blk.new _ _ _
  have HW : Hid (W = _) := hW
  clear hW
  have CE : Hid (∀ w', Below W.heap.size W w' → Calls Try.prog 96 #[.agg #[.bool x.b.n, .int .i64 x.b.p, .int .i64 x.b.q, .slice x.a1 x.b.xs.length x.c1, .slice x.a2 x.b.ys.length x.c2, .int .i64 x.b.v, .int .i64 x.b.k]] w' fun e w'' => e = .returned (.bool (rightE x.b)) ∧ Below w'.heap.size w' w'') := fun w' hb => specCertEntry x.b.n x.b.p x.b.q x.a1 x.a2 x.c1 x.c2 x.b.xs x.b.ys x.b.v x.b.k w' ((H.out.1.below BW.out).below hb) ((H.out.2.1.below BW.out).below hb) F.out.1 F.out.2.1 F.out.2.2.1 F.out.2.2.2.1
  have CV : Hid (∀ w', Below W.heap.size W w' → Calls Try.prog 68 #[.slice x.a x.vs.length x.c] w' fun e w'' => e = .returned (.bool (votesOk (bodies x.vs))) ∧ Below w'.heap.size w' w'') := fun w' hb => specVotes x.a x.c x.vs w' ((H.out.2.2.below BW.out).below hb) F.out.2.2.2.2.1 F.out.2.2.2.2.2
  have BL : Hid ((bodies x.vs).length = x.vs.length) := bodies_len _
  cases hk2 : (x.kind == 2) with
  | true =>
    have hk3 : (x.kind != 2) = false := by simp only [bne, hk2]; rfl
    by_cases h0 : x.src < 0
    · have X : Hid (T = false) := by
        show _ = _
        rw [E.out]
        have : nodeId x.src = false := by simp [nodeId]; omega
        rw [this]; rfl
      clear E
      go_enter Try.func42, Try.ntmps42
      go_wp2_with fail
      go_ret
      exact ⟨ret_bool X.out.symm, by rw [← HW.out]; exact BW.out⟩
    · skip
      by_cases h1 : 3 ≤ x.src
      · have X : Hid (T = false) := by
          show _ = _
          rw [E.out]
          have : nodeId x.src = false := by simp [nodeId]; omega
          rw [this]; rfl
        clear E
        go_enter Try.func42, Try.ntmps42
        go_wp2_with fail
        go_ret
        exact ⟨ret_bool X.out.symm, by rw [← HW.out]; exact BW.out⟩
      · skip
        by_cases h2 : x.dst < 0
        · have X : Hid (T = false) := by
            show _ = _
            rw [E.out]
            have : nodeId x.dst = false := by simp [nodeId]; omega
            rw [this]; simp
          clear E
          go_enter Try.func42, Try.ntmps42
          go_wp2_with fail
          go_ret
          exact ⟨ret_bool X.out.symm, by rw [← HW.out]; exact BW.out⟩
        · skip
          by_cases h3 : 3 ≤ x.dst
          · have X : Hid (T = false) := by
              show _ = _
              rw [E.out]
              have : nodeId x.dst = false := by simp [nodeId]; omega
              rw [this]; simp
            clear E
            go_enter Try.func42, Try.ntmps42
            go_wp2_with fail
            go_ret
            exact ⟨ret_bool X.out.symm, by rw [← HW.out]; exact BW.out⟩
          · skip
            cases h4 : (x.src == x.dst) with
            | true =>
              have X : Hid (T = false) := by
                show _ = _
                rw [E.out]
                have : (x.src != x.dst) = false := by simp only [bne, h4]; rfl
                rw [this]; simp
              clear E
              go_enter Try.func42, Try.ntmps42
              go_wp2_with fail
              go_ret
              exact ⟨ret_bool X.out.symm, by rw [← HW.out]; exact BW.out⟩
            | false =>
              by_cases h5 : x.slot < 0
              · have X : Hid (T = false) := by
                  show _ = _
                  rw [E.out]
                  rw [form_slot (.inl h5)]; simp
                clear E
                go_enter Try.func42, Try.ntmps42
                go_wp2_with fail
                go_ret
                exact ⟨ret_bool X.out.symm, by rw [← HW.out]; exact BW.out⟩
              · skip
                by_cases h6 : x.slot > 40
                · have X : Hid (T = false) := by
                    show _ = _
                    rw [E.out]
                    rw [form_slot (.inr h6)]; simp
                  clear E
                  go_enter Try.func42, Try.ntmps42
                  go_wp2_with fail
                  go_ret
                  exact ⟨ret_bool X.out.symm, by rw [← HW.out]; exact BW.out⟩
                · skip
                  have E2 : Hid (T = formOk x.kind x.bal x.slot x.b (bodies x.vs)) := by
                    show _ = _
                    have e1 : nodeId x.src = true := by simp [nodeId]; omega
                    have e2 : nodeId x.dst = true := by simp [nodeId]; omega
                    have e3 : (x.src != x.dst) = true := by simp only [bne, h4]; rfl
                    rw [E.out, e1, e2, e3]; rfl
                  clear E
                  have S40 : Hid (0 ≤ x.slot ∧ x.slot ≤ 40) := by constructor <;> omega
                  go_enter Try.func42, Try.ntmps42
                  go_wp2_with fail
                  rw [← HW.out]
                  refine (specNone x.b.n x.b.p x.b.q x.a1 x.a2 x.c1 x.c2 x.b.xs x.b.ys x.b.v x.b.k W (H.out.1.below BW.out) (H.out.2.1.below BW.out) F.out.1 F.out.2.1).mono ?_
                  rintro e w1 ⟨rfl, b1⟩
                  have B1 : Hid (Below W.heap.size W w1) := b1
                  obtain ⟨q0, q1, q2, q3, q4, q5, q6, q7, q8, q9, q10, q11, q12⟩ := (G0.out.keep b1).cells13
                  clear b1
                  have NE : Hid (noneE ⟨x.b.n, x.b.p, x.b.q, x.b.xs, x.b.ys, x.b.v, x.b.k⟩ = noneE x.b) := rfl
                  rw [NE.out]
                  generalize hno : noneE x.b = no
                  have NO : Hid (noneE x.b = no) := hno
                  clear hno
                  go_wp2_with fail
                  refine (CE.out w1 B1.out).mono ?_
                  rintro e w2 ⟨rfl, b2⟩
                  have B2 : Hid (Below W.heap.size W w2) := B1.out.trans (b2.mono B1.out.size)
                  have B2w : Hid (Below w.heap.size w w2) := BW.out.trans (B2.out.mono BW.out.size)
                  clear b2 q0 q1 q2 q3 q4 q5 q6 q7 q8 q9 q10 q11 q12
                  obtain ⟨q0, q1, q2, q3, q4, q5, q6, q7, q8, q9, q10, q11, q12⟩ := (G0.out.keep B2.out).cells13
                  generalize hri : rightE x.b = ri
                  have RI : Hid (rightE x.b = ri) := hri
                  clear hri
                  have k1 : (x.kind == 1) = false := by rw [show x.kind = 2 by simpa using hk2]; rfl
                  have E3 : Hid (T = (isBal x.bal && no && (votesOk (bodies x.vs) && decide (x.slot + x.vs.length ≤ 40)))) := by
                    show _ = _
                    have hk : x.kind = 2 := by simpa using hk2
                    have hs : inSpan 0 40 x.slot = true := by have := S40.out; simp [inSpan]; omega
                    rw [E2.out, hk]
                    simp only [formOk, hs, NO.out, BL.out]
                    simp
                  clear E2
                  have OV : Hid (0 ≤ (x.vs.length : Int) ∧ (x.vs.length : Int) ≤ 2 ^ 40) := ⟨by omega, by have := F.out.2.2.2.2.1; omega⟩
                  cases ri
                  all_goals
                    go_wp2_with fail
                    refine (specBal x.bal w2).mono ?_
                    rintro e w3 ⟨rfl, rfl⟩
                    generalize isBal x.bal = ib at E3 ⊢
                    cases ib with
                    | false =>
                      have X : Hid (T = false) := by show _ = _; rw [E3.out]; rfl
                      go_wp2_with fail
                      go_ret
                      exact ⟨ret_bool X.out.symm, B2w.out⟩
                    | true =>
                      cases no with
                      | false =>
                        have X : Hid (T = false) := by show _ = _; rw [E3.out]; rfl
                        go_wp2_with fail
                        go_ret
                        exact ⟨ret_bool X.out.symm, B2w.out⟩
                      | true =>
                        go_wp2_with fail
                        refine (CV.out w3 B2.out).mono ?_
                        rintro e w4 ⟨rfl, b4⟩
                        have B4 : Hid (Below w.heap.size w w4) := B2w.out.trans (b4.mono B2w.out.size)
                        obtain ⟨r0, r1, r2, r3, r4, r5, r6, r7, r8, r9, r10, r11, r12⟩ := (G0.out.keep (B2.out.trans (b4.mono B2.out.size))).cells13
                        clear b4 q0 q1 q2 q3 q4 q5 q6 q7 q8 q9 q10 q11 q12
                        generalize votesOk (bodies x.vs) = vo at E3 ⊢
                        cases vo with
                        | false =>
                          have X : Hid (T = false) := by show _ = _; rw [E3.out]; rfl
                          go_wp2_with fail
                          go_ret
                          exact ⟨ret_bool X.out.symm, B4.out⟩
                        | true =>
                          have X : Hid (T = decide (x.slot + x.vs.length ≤ 40)) := by show _ = _; rw [E3.out]; rfl
                          have ov := OV.out
                          have sv := S40.out
                          have hw1 : IntKind.i64.wrap (x.slot + (x.vs.length : Int)) = x.slot + (x.vs.length : Int) := by rw [IntKind.wrap_i64]; omega
                          go_wp2_with fail
                          go_ret
                          exact ⟨ret_bool X.out.symm, B4.out⟩
  | false =>
    have hk3 : (x.kind != 2) = true := by simp only [bne, hk2]; rfl
    by_cases h0 : x.src < 0
    · have X : Hid (T = false) := by
        show _ = _
        rw [E.out]
        have : nodeId x.src = false := by simp [nodeId]; omega
        rw [this]; rfl
      clear E
      go_enter Try.func42, Try.ntmps42
      go_wp2_with fail
      go_ret
      exact ⟨ret_bool X.out.symm, by rw [← HW.out]; exact BW.out⟩
    · skip
      by_cases h1 : 3 ≤ x.src
      · have X : Hid (T = false) := by
          show _ = _
          rw [E.out]
          have : nodeId x.src = false := by simp [nodeId]; omega
          rw [this]; rfl
        clear E
        go_enter Try.func42, Try.ntmps42
        go_wp2_with fail
        go_ret
        exact ⟨ret_bool X.out.symm, by rw [← HW.out]; exact BW.out⟩
      · skip
        by_cases h2 : x.dst < 0
        · have X : Hid (T = false) := by
            show _ = _
            rw [E.out]
            have : nodeId x.dst = false := by simp [nodeId]; omega
            rw [this]; simp
          clear E
          go_enter Try.func42, Try.ntmps42
          go_wp2_with fail
          go_ret
          exact ⟨ret_bool X.out.symm, by rw [← HW.out]; exact BW.out⟩
        · skip
          by_cases h3 : 3 ≤ x.dst
          · have X : Hid (T = false) := by
              show _ = _
              rw [E.out]
              have : nodeId x.dst = false := by simp [nodeId]; omega
              rw [this]; simp
            clear E
            go_enter Try.func42, Try.ntmps42
            go_wp2_with fail
            go_ret
            exact ⟨ret_bool X.out.symm, by rw [← HW.out]; exact BW.out⟩
          · skip
            cases h4 : (x.src == x.dst) with
            | true =>
              have X : Hid (T = false) := by
                show _ = _
                rw [E.out]
                have : (x.src != x.dst) = false := by simp only [bne, h4]; rfl
                rw [this]; simp
              clear E
              go_enter Try.func42, Try.ntmps42
              go_wp2_with fail
              go_ret
              exact ⟨ret_bool X.out.symm, by rw [← HW.out]; exact BW.out⟩
            | false =>
              by_cases h5 : x.slot < 0
              · have X : Hid (T = false) := by
                  show _ = _
                  rw [E.out]
                  rw [form_slot (.inl h5)]; simp
                clear E
                go_enter Try.func42, Try.ntmps42
                go_wp2_with fail
                go_ret
                exact ⟨ret_bool X.out.symm, by rw [← HW.out]; exact BW.out⟩
              · skip
                by_cases h6 : x.slot > 40
                · have X : Hid (T = false) := by
                    show _ = _
                    rw [E.out]
                    rw [form_slot (.inr h6)]; simp
                  clear E
                  go_enter Try.func42, Try.ntmps42
                  go_wp2_with fail
                  go_ret
                  exact ⟨ret_bool X.out.symm, by rw [← HW.out]; exact BW.out⟩
                · skip
                  by_cases h7 : (x.vs.length : Int) > 0
                  · have X : Hid (T = false) := by
                      show _ = _
                      rw [E.out, form_votes (by simpa using hk2) (by rw [BL.out]; omega)]
                      simp
                    clear E
                    go_enter Try.func42, Try.ntmps42
                    go_wp2_with fail
                    go_ret
                    exact ⟨ret_bool X.out.symm, by rw [← HW.out]; exact BW.out⟩
                  · skip
                    have E2 : Hid (T = formOk x.kind x.bal x.slot x.b (bodies x.vs)) := by
                      show _ = _
                      have e1 : nodeId x.src = true := by simp [nodeId]; omega
                      have e2 : nodeId x.dst = true := by simp [nodeId]; omega
                      have e3 : (x.src != x.dst) = true := by simp only [bne, h4]; rfl
                      rw [E.out, e1, e2, e3]; rfl
                    clear E
                    have L0 : Hid (x.vs.length = 0) := by show _ = _; omega
                    have S40 : Hid (0 ≤ x.slot ∧ x.slot ≤ 40) := by constructor <;> omega
                    go_enter Try.func42, Try.ntmps42
                    go_wp2_with fail
                    rw [← HW.out]
                    refine (specNone x.b.n x.b.p x.b.q x.a1 x.a2 x.c1 x.c2 x.b.xs x.b.ys x.b.v x.b.k W (H.out.1.below BW.out) (H.out.2.1.below BW.out) F.out.1 F.out.2.1).mono ?_
                    rintro e w1 ⟨rfl, b1⟩
                    have B1 : Hid (Below W.heap.size W w1) := b1
                    obtain ⟨q0, q1, q2, q3, q4, q5, q6, q7, q8, q9, q10, q11, q12⟩ := (G0.out.keep b1).cells13
                    clear b1
                    have NE : Hid (noneE ⟨x.b.n, x.b.p, x.b.q, x.b.xs, x.b.ys, x.b.v, x.b.k⟩ = noneE x.b) := rfl
                    rw [NE.out]
                    generalize hno : noneE x.b = no
                    have NO : Hid (noneE x.b = no) := hno
                    clear hno
                    go_wp2_with fail
                    refine (CE.out w1 B1.out).mono ?_
                    rintro e w2 ⟨rfl, b2⟩
                    have B2 : Hid (Below W.heap.size W w2) := B1.out.trans (b2.mono B1.out.size)
                    have B2w : Hid (Below w.heap.size w w2) := BW.out.trans (B2.out.mono BW.out.size)
                    clear b2 q0 q1 q2 q3 q4 q5 q6 q7 q8 q9 q10 q11 q12
                    obtain ⟨q0, q1, q2, q3, q4, q5, q6, q7, q8, q9, q10, q11, q12⟩ := (G0.out.keep B2.out).cells13
                    generalize hri : rightE x.b = ri
                    have RI : Hid (rightE x.b = ri) := hri
                    clear hri
                    have k2 : (x.kind == 2) = false := hk2
                    have E3 : Hid (∀ r, formOk x.kind x.bal x.slot x.b (bodies x.vs) = r → T = r) := fun r hr => by rw [E2.out, hr]
                    clear E2
                    have L1 : Hid (bodies x.vs = []) := List.eq_nil_of_length_eq_zero (by rw [BL.out]; exact L0.out)
                    have S1 : Hid (inSpan 0 40 x.slot = true) := by have := S40.out; show _ = _; simp [inSpan]; omega
                    have S2 : Hid (inSpan 0 39 x.slot = decide (x.slot < 40)) := by
                      have := S40.out
                      show _ = _
                      by_cases h : x.slot < 40
                      · have : x.slot ≤ 39 := by omega
                        simp [inSpan, h, this]; omega
                      · have : ¬ x.slot ≤ 39 := by omega
                        simp [inSpan, h, this]
                    have S3 : Hid (inSpan 0 0 x.slot = (x.slot == 0)) := span_at
                    have S4 : Hid (inSpan 0 0 x.bal = (x.bal == 0)) := span_at
                    have SV := S40.out
                    cases ri with
                    | false =>
                      cases k1 : (x.kind == 1) with
                      | true =>
                        have E4 : Hid (T = (isBal x.bal && no)) := by
                          show _ = _
                          apply E3.out
                          have hk : x.kind = 1 := by simpa using k1
                          have l1 := L1.out; have s1 := S1.out; have s2 := S2.out; have s3 := S3.out; have s4 := S4.out; have no1 := NO.out; have ri1 := RI.out
                          simp [formOk, hk, l1, s1, s2, s3, s4, no1, ri1]
                        have k3 : (x.kind == 3) = false := by rw [show x.kind = 1 by simpa using k1]; rfl
                        have k4 : (x.kind == 4) = false := by rw [show x.kind = 1 by simpa using k1]; rfl
                        have k5 : (x.kind == 5) = false := by rw [show x.kind = 1 by simpa using k1]; rfl
                        have k6 : (x.kind == 6) = false := by rw [show x.kind = 1 by simpa using k1]; rfl
                        have k7 : (x.kind == 7) = false := by rw [show x.kind = 1 by simpa using k1]; rfl
                        have k8 : (x.kind == 8) = false := by rw [show x.kind = 1 by simpa using k1]; rfl
                        clear E3
                        go_wp2_with fail
                        refine (specBal x.bal w2).mono ?_
                        rintro e w3 ⟨rfl, rfl⟩
                        generalize isBal x.bal = ib at E4 ⊢
                        cases ib with
                        | false =>
                          have X : Hid (T = false) := by show _ = _; rw [E4.out]; rfl
                          go_wp2_with fail
                          go_ret
                          exact ⟨ret_bool X.out.symm, B2w.out⟩
                        | true =>
                          have X : Hid (T = no) := by show _ = _; rw [E4.out]; simp
                          go_wp2_with fail
                          go_ret
                          exact ⟨ret_bool X.out.symm, B2w.out⟩
                      | false =>
                        cases k3 : (x.kind == 3) with
                        | true =>
                          have E4 : Hid (T = (isBal x.bal && (false && decide (x.slot < 40)))) := by
                            show _ = _
                            apply E3.out
                            have hk : x.kind = 3 := by simpa using k3
                            have l1 := L1.out; have s1 := S1.out; have s2 := S2.out; have s3 := S3.out; have s4 := S4.out; have no1 := NO.out; have ri1 := RI.out
                            simp [formOk, hk, l1, s1, s2, s3, s4, no1, ri1]
                          have k4 : (x.kind == 4) = false := by rw [show x.kind = 3 by simpa using k3]; rfl
                          have k5 : (x.kind == 5) = false := by rw [show x.kind = 3 by simpa using k3]; rfl
                          have k6 : (x.kind == 6) = false := by rw [show x.kind = 3 by simpa using k3]; rfl
                          have k7 : (x.kind == 7) = false := by rw [show x.kind = 3 by simpa using k3]; rfl
                          have k8 : (x.kind == 8) = false := by rw [show x.kind = 3 by simpa using k3]; rfl
                          clear E3
                          go_wp2_with fail
                          refine (specBal x.bal w2).mono ?_
                          rintro e w3 ⟨rfl, rfl⟩
                          generalize isBal x.bal = ib at E4 ⊢
                          cases ib with
                          | false =>
                            have X : Hid (T = false) := by show _ = _; rw [E4.out]; rfl
                            go_wp2_with fail
                            go_ret
                            exact ⟨ret_bool X.out.symm, B2w.out⟩
                          | true =>
                            have X : Hid (T = false) := by show _ = _; rw [E4.out]; simp
                            go_wp2_with fail
                            go_ret
                            exact ⟨ret_bool X.out.symm, B2w.out⟩
                        | false =>
                          cases k4 : (x.kind == 4) with
                          | true =>
                            have E4 : Hid (T = (isBal x.bal && no)) := by
                              show _ = _
                              apply E3.out
                              have hk : x.kind = 4 := by simpa using k4
                              have l1 := L1.out; have s1 := S1.out; have s2 := S2.out; have s3 := S3.out; have s4 := S4.out; have no1 := NO.out; have ri1 := RI.out
                              simp [formOk, hk, l1, s1, s2, s3, s4, no1, ri1]
                            have k5 : (x.kind == 5) = false := by rw [show x.kind = 4 by simpa using k4]; rfl
                            have k6 : (x.kind == 6) = false := by rw [show x.kind = 4 by simpa using k4]; rfl
                            have k7 : (x.kind == 7) = false := by rw [show x.kind = 4 by simpa using k4]; rfl
                            have k8 : (x.kind == 8) = false := by rw [show x.kind = 4 by simpa using k4]; rfl
                            clear E3
                            go_wp2_with fail
                            refine (specBal x.bal w2).mono ?_
                            rintro e w3 ⟨rfl, rfl⟩
                            generalize isBal x.bal = ib at E4 ⊢
                            cases ib with
                            | false =>
                              have X : Hid (T = false) := by show _ = _; rw [E4.out]; rfl
                              go_wp2_with fail
                              go_ret
                              exact ⟨ret_bool X.out.symm, B2w.out⟩
                            | true =>
                              have X : Hid (T = no) := by show _ = _; rw [E4.out]; simp
                              go_wp2_with fail
                              go_ret
                              exact ⟨ret_bool X.out.symm, B2w.out⟩
                          | false =>
                            cases k5 : (x.kind == 5) with
                            | true =>
                              have E4 : Hid (T = (x.bal == 0 && (false && decide (x.slot < 40)))) := by
                                show _ = _
                                apply E3.out
                                have hk : x.kind = 5 := by simpa using k5
                                have l1 := L1.out; have s1 := S1.out; have s2 := S2.out; have s3 := S3.out; have s4 := S4.out; have no1 := NO.out; have ri1 := RI.out
                                simp [formOk, hk, l1, s1, s2, s3, s4, no1, ri1]
                              have k6 : (x.kind == 6) = false := by rw [show x.kind = 5 by simpa using k5]; rfl
                              have k7 : (x.kind == 7) = false := by rw [show x.kind = 5 by simpa using k5]; rfl
                              have k8 : (x.kind == 8) = false := by rw [show x.kind = 5 by simpa using k5]; rfl
                              clear E3
                              cases b0 : (x.bal == 0) with
                              | false =>
                                have X : Hid (T = false) := by show _ = _; rw [E4.out, b0]; rfl
                                go_wp2_with fail
                                go_ret
                                exact ⟨ret_bool X.out.symm, B2w.out⟩
                              | true =>
                                have X : Hid (T = false) := by show _ = _; rw [E4.out, b0]; simp
                                go_wp2_with fail
                                go_ret
                                exact ⟨ret_bool X.out.symm, B2w.out⟩
                            | false =>
                              cases k6 : (x.kind == 6) with
                              | true =>
                                have E4 : Hid (T = (isBal x.bal && no && x.slot == 0)) := by
                                  show _ = _
                                  apply E3.out
                                  have hk : x.kind = 6 := by simpa using k6
                                  have l1 := L1.out; have s1 := S1.out; have s2 := S2.out; have s3 := S3.out; have s4 := S4.out; have no1 := NO.out; have ri1 := RI.out
                                  simp [formOk, hk, l1, s1, s2, s3, s4, no1, ri1]
                                  try (cases isBal x.bal <;> cases no <;> simp)
                                have k7 : (x.kind == 7) = false := by rw [show x.kind = 6 by simpa using k6]; rfl
                                have k8 : (x.kind == 8) = false := by rw [show x.kind = 6 by simpa using k6]; rfl
                                clear E3
                                go_wp2_with fail
                                refine (specBal x.bal w2).mono ?_
                                rintro e w3 ⟨rfl, rfl⟩
                                generalize isBal x.bal = ib at E4 ⊢
                                cases ib with
                                | false =>
                                  have X : Hid (T = false) := by show _ = _; rw [E4.out]; rfl
                                  go_wp2_with fail
                                  go_ret
                                  exact ⟨ret_bool X.out.symm, B2w.out⟩
                                | true =>
                                  cases no with
                                  | false =>
                                    have X : Hid (T = false) := by show _ = _; rw [E4.out]; rfl
                                    go_wp2_with fail
                                    go_ret
                                    exact ⟨ret_bool X.out.symm, B2w.out⟩
                                  | true =>
                                    have X : Hid (T = (x.slot == 0)) := by show _ = _; rw [E4.out]; rfl
                                    go_wp2_with fail
                                    go_ret
                                    exact ⟨ret_bool X.out.symm, B2w.out⟩
                              | false =>
                                cases k7 : (x.kind == 7) with
                                | true =>
                                  have E4 : Hid (T = (x.bal == 0 && x.slot == 0 && false && !x.b.n)) := by
                                    show _ = _
                                    apply E3.out
                                    have hk : x.kind = 7 := by simpa using k7
                                    have l1 := L1.out; have s1 := S1.out; have s2 := S2.out; have s3 := S3.out; have s4 := S4.out; have no1 := NO.out; have ri1 := RI.out
                                    simp [formOk, hk, l1, s1, s2, s3, s4, no1, ri1]
                                  have k8 : (x.kind == 8) = false := by rw [show x.kind = 7 by simpa using k7]; rfl
                                  clear E3
                                  cases b0 : (x.bal == 0) with
                                  | false =>
                                    have X : Hid (T = false) := by show _ = _; rw [E4.out, b0]; rfl
                                    go_wp2_with fail
                                    go_ret
                                    exact ⟨ret_bool X.out.symm, B2w.out⟩
                                  | true =>
                                    cases s0 : (x.slot == 0) with
                                    | false =>
                                      have X : Hid (T = false) := by show _ = _; rw [E4.out, b0, s0]; rfl
                                      go_wp2_with fail
                                      go_ret
                                      exact ⟨ret_bool X.out.symm, B2w.out⟩
                                    | true =>
                                      have X : Hid (T = (false && !x.b.n)) := by show _ = _; rw [E4.out, b0, s0]; rfl
                                      have CR := CE.out w2 B2.out
                                      rw [RI.out] at CR
                                      have HCR : Hid (Calls _ _ _ _ _) := CR
                                      clear CR
                                      go_wp2_with fail
                                      refine Calls.mono HCR.out ?_
                                      rintro e w3 ⟨rfl, b3⟩
                                      have B3 : Hid (Below w.heap.size w w3) := B2w.out.trans (b3.mono B2w.out.size)
                                      obtain ⟨r0, r1, r2, r3, r4, r5, r6, r7, r8, r9, r10, r11, r12⟩ := (G0.out.keep (B2.out.trans (b3.mono B2.out.size))).cells13
                                      clear b3 q0 q1 q2 q3 q4 q5 q6 q7 q8 q9 q10 q11 q12
                                      go_wp2_with fail
                                      go_ret
                                      exact ⟨ret_bool X.out.symm, B3.out⟩
                                | false =>
                                  cases k8 : (x.kind == 8) with
                                  | true =>
                                    have E4 : Hid (T = (x.bal == 0 && no)) := by
                                      show _ = _
                                      apply E3.out
                                      have hk : x.kind = 8 := by simpa using k8
                                      have l1 := L1.out; have s1 := S1.out; have s2 := S2.out; have s3 := S3.out; have s4 := S4.out; have no1 := NO.out; have ri1 := RI.out
                                      simp [formOk, hk, l1, s1, s2, s3, s4, no1, ri1]
                                    clear E3
                                    cases b0 : (x.bal == 0) with
                                    | false =>
                                      have X : Hid (T = false) := by show _ = _; rw [E4.out, b0]; rfl
                                      go_wp2_with fail
                                      go_ret
                                      exact ⟨ret_bool X.out.symm, B2w.out⟩
                                    | true =>
                                      have X : Hid (T = no) := by show _ = _; rw [E4.out, b0]; simp
                                      go_wp2_with fail
                                      go_ret
                                      exact ⟨ret_bool X.out.symm, B2w.out⟩
                                  | false =>
                                    have X : Hid (T = false) := by
                                      show _ = _
                                      apply E3.out
                                      have g1 : x.kind ≠ 1 := by simpa using k1
                                      have g2 : x.kind ≠ 2 := by simpa using k2
                                      have g3 : x.kind ≠ 3 := by simpa using k3
                                      have g4 : x.kind ≠ 4 := by simpa using k4
                                      have g5 : x.kind ≠ 5 := by simpa using k5
                                      have g6 : x.kind ≠ 6 := by simpa using k6
                                      have g7 : x.kind ≠ 7 := by simpa using k7
                                      have g8 : x.kind ≠ 8 := by simpa using k8
                                      simp [formOk, g1, g2, g3, g4, g5, g6, g7, g8]
                                    clear E3
                                    go_wp2_with fail
                                    go_ret
                                    exact ⟨ret_bool X.out.symm, B2w.out⟩
                    | true =>
                      cases k1 : (x.kind == 1) with
                      | true =>
                        have E4 : Hid (T = (isBal x.bal && no)) := by
                          show _ = _
                          apply E3.out
                          have hk : x.kind = 1 := by simpa using k1
                          have l1 := L1.out; have s1 := S1.out; have s2 := S2.out; have s3 := S3.out; have s4 := S4.out; have no1 := NO.out; have ri1 := RI.out
                          simp [formOk, hk, l1, s1, s2, s3, s4, no1, ri1]
                        have k3 : (x.kind == 3) = false := by rw [show x.kind = 1 by simpa using k1]; rfl
                        have k4 : (x.kind == 4) = false := by rw [show x.kind = 1 by simpa using k1]; rfl
                        have k5 : (x.kind == 5) = false := by rw [show x.kind = 1 by simpa using k1]; rfl
                        have k6 : (x.kind == 6) = false := by rw [show x.kind = 1 by simpa using k1]; rfl
                        have k7 : (x.kind == 7) = false := by rw [show x.kind = 1 by simpa using k1]; rfl
                        have k8 : (x.kind == 8) = false := by rw [show x.kind = 1 by simpa using k1]; rfl
                        clear E3
                        go_wp2_with fail
                        refine (specBal x.bal w2).mono ?_
                        rintro e w3 ⟨rfl, rfl⟩
                        generalize isBal x.bal = ib at E4 ⊢
                        cases ib with
                        | false =>
                          have X : Hid (T = false) := by show _ = _; rw [E4.out]; rfl
                          go_wp2_with fail
                          go_ret
                          exact ⟨ret_bool X.out.symm, B2w.out⟩
                        | true =>
                          have X : Hid (T = no) := by show _ = _; rw [E4.out]; simp
                          go_wp2_with fail
                          go_ret
                          exact ⟨ret_bool X.out.symm, B2w.out⟩
                      | false =>
                        cases k3 : (x.kind == 3) with
                        | true =>
                          have E4 : Hid (T = (isBal x.bal && (true && decide (x.slot < 40)))) := by
                            show _ = _
                            apply E3.out
                            have hk : x.kind = 3 := by simpa using k3
                            have l1 := L1.out; have s1 := S1.out; have s2 := S2.out; have s3 := S3.out; have s4 := S4.out; have no1 := NO.out; have ri1 := RI.out
                            simp [formOk, hk, l1, s1, s2, s3, s4, no1, ri1]
                          have k4 : (x.kind == 4) = false := by rw [show x.kind = 3 by simpa using k3]; rfl
                          have k5 : (x.kind == 5) = false := by rw [show x.kind = 3 by simpa using k3]; rfl
                          have k6 : (x.kind == 6) = false := by rw [show x.kind = 3 by simpa using k3]; rfl
                          have k7 : (x.kind == 7) = false := by rw [show x.kind = 3 by simpa using k3]; rfl
                          have k8 : (x.kind == 8) = false := by rw [show x.kind = 3 by simpa using k3]; rfl
                          clear E3
                          go_wp2_with fail
                          refine (specBal x.bal w2).mono ?_
                          rintro e w3 ⟨rfl, rfl⟩
                          generalize isBal x.bal = ib at E4 ⊢
                          cases ib with
                          | false =>
                            have X : Hid (T = false) := by show _ = _; rw [E4.out]; rfl
                            go_wp2_with fail
                            go_ret
                            exact ⟨ret_bool X.out.symm, B2w.out⟩
                          | true =>
                            have X : Hid (T = decide (x.slot < 40)) := by show _ = _; rw [E4.out]; simp
                            go_wp2_with fail
                            go_ret
                            exact ⟨ret_bool X.out.symm, B2w.out⟩
                        | false =>
                          cases k4 : (x.kind == 4) with
                          | true =>
                            have E4 : Hid (T = (isBal x.bal && no)) := by
                              show _ = _
                              apply E3.out
                              have hk : x.kind = 4 := by simpa using k4
                              have l1 := L1.out; have s1 := S1.out; have s2 := S2.out; have s3 := S3.out; have s4 := S4.out; have no1 := NO.out; have ri1 := RI.out
                              simp [formOk, hk, l1, s1, s2, s3, s4, no1, ri1]
                            have k5 : (x.kind == 5) = false := by rw [show x.kind = 4 by simpa using k4]; rfl
                            have k6 : (x.kind == 6) = false := by rw [show x.kind = 4 by simpa using k4]; rfl
                            have k7 : (x.kind == 7) = false := by rw [show x.kind = 4 by simpa using k4]; rfl
                            have k8 : (x.kind == 8) = false := by rw [show x.kind = 4 by simpa using k4]; rfl
                            clear E3
                            go_wp2_with fail
                            refine (specBal x.bal w2).mono ?_
                            rintro e w3 ⟨rfl, rfl⟩
                            generalize isBal x.bal = ib at E4 ⊢
                            cases ib with
                            | false =>
                              have X : Hid (T = false) := by show _ = _; rw [E4.out]; rfl
                              go_wp2_with fail
                              go_ret
                              exact ⟨ret_bool X.out.symm, B2w.out⟩
                            | true =>
                              have X : Hid (T = no) := by show _ = _; rw [E4.out]; simp
                              go_wp2_with fail
                              go_ret
                              exact ⟨ret_bool X.out.symm, B2w.out⟩
                          | false =>
                            cases k5 : (x.kind == 5) with
                            | true =>
                              have E4 : Hid (T = (x.bal == 0 && (true && decide (x.slot < 40)))) := by
                                show _ = _
                                apply E3.out
                                have hk : x.kind = 5 := by simpa using k5
                                have l1 := L1.out; have s1 := S1.out; have s2 := S2.out; have s3 := S3.out; have s4 := S4.out; have no1 := NO.out; have ri1 := RI.out
                                simp [formOk, hk, l1, s1, s2, s3, s4, no1, ri1]
                              have k6 : (x.kind == 6) = false := by rw [show x.kind = 5 by simpa using k5]; rfl
                              have k7 : (x.kind == 7) = false := by rw [show x.kind = 5 by simpa using k5]; rfl
                              have k8 : (x.kind == 8) = false := by rw [show x.kind = 5 by simpa using k5]; rfl
                              clear E3
                              cases b0 : (x.bal == 0) with
                              | false =>
                                have X : Hid (T = false) := by show _ = _; rw [E4.out, b0]; rfl
                                go_wp2_with fail
                                go_ret
                                exact ⟨ret_bool X.out.symm, B2w.out⟩
                              | true =>
                                have X : Hid (T = decide (x.slot < 40)) := by show _ = _; rw [E4.out, b0]; simp
                                go_wp2_with fail
                                go_ret
                                exact ⟨ret_bool X.out.symm, B2w.out⟩
                            | false =>
                              cases k6 : (x.kind == 6) with
                              | true =>
                                have E4 : Hid (T = (isBal x.bal && no && x.slot == 0)) := by
                                  show _ = _
                                  apply E3.out
                                  have hk : x.kind = 6 := by simpa using k6
                                  have l1 := L1.out; have s1 := S1.out; have s2 := S2.out; have s3 := S3.out; have s4 := S4.out; have no1 := NO.out; have ri1 := RI.out
                                  simp [formOk, hk, l1, s1, s2, s3, s4, no1, ri1]
                                  try (cases isBal x.bal <;> cases no <;> simp)
                                have k7 : (x.kind == 7) = false := by rw [show x.kind = 6 by simpa using k6]; rfl
                                have k8 : (x.kind == 8) = false := by rw [show x.kind = 6 by simpa using k6]; rfl
                                clear E3
                                go_wp2_with fail
                                refine (specBal x.bal w2).mono ?_
                                rintro e w3 ⟨rfl, rfl⟩
                                generalize isBal x.bal = ib at E4 ⊢
                                cases ib with
                                | false =>
                                  have X : Hid (T = false) := by show _ = _; rw [E4.out]; rfl
                                  go_wp2_with fail
                                  go_ret
                                  exact ⟨ret_bool X.out.symm, B2w.out⟩
                                | true =>
                                  cases no with
                                  | false =>
                                    have X : Hid (T = false) := by show _ = _; rw [E4.out]; rfl
                                    go_wp2_with fail
                                    go_ret
                                    exact ⟨ret_bool X.out.symm, B2w.out⟩
                                  | true =>
                                    have X : Hid (T = (x.slot == 0)) := by show _ = _; rw [E4.out]; rfl
                                    go_wp2_with fail
                                    go_ret
                                    exact ⟨ret_bool X.out.symm, B2w.out⟩
                              | false =>
                                cases k7 : (x.kind == 7) with
                                | true =>
                                  have E4 : Hid (T = (x.bal == 0 && x.slot == 0 && true && !x.b.n)) := by
                                    show _ = _
                                    apply E3.out
                                    have hk : x.kind = 7 := by simpa using k7
                                    have l1 := L1.out; have s1 := S1.out; have s2 := S2.out; have s3 := S3.out; have s4 := S4.out; have no1 := NO.out; have ri1 := RI.out
                                    simp [formOk, hk, l1, s1, s2, s3, s4, no1, ri1]
                                  have k8 : (x.kind == 8) = false := by rw [show x.kind = 7 by simpa using k7]; rfl
                                  clear E3
                                  cases b0 : (x.bal == 0) with
                                  | false =>
                                    have X : Hid (T = false) := by show _ = _; rw [E4.out, b0]; rfl
                                    go_wp2_with fail
                                    go_ret
                                    exact ⟨ret_bool X.out.symm, B2w.out⟩
                                  | true =>
                                    cases s0 : (x.slot == 0) with
                                    | false =>
                                      have X : Hid (T = false) := by show _ = _; rw [E4.out, b0, s0]; rfl
                                      go_wp2_with fail
                                      go_ret
                                      exact ⟨ret_bool X.out.symm, B2w.out⟩
                                    | true =>
                                      have X : Hid (T = (true && !x.b.n)) := by show _ = _; rw [E4.out, b0, s0]; rfl
                                      have CR := CE.out w2 B2.out
                                      rw [RI.out] at CR
                                      have HCR : Hid (Calls _ _ _ _ _) := CR
                                      clear CR
                                      go_wp2_with fail
                                      refine Calls.mono HCR.out ?_
                                      rintro e w3 ⟨rfl, b3⟩
                                      have B3 : Hid (Below w.heap.size w w3) := B2w.out.trans (b3.mono B2w.out.size)
                                      obtain ⟨r0, r1, r2, r3, r4, r5, r6, r7, r8, r9, r10, r11, r12⟩ := (G0.out.keep (B2.out.trans (b3.mono B2.out.size))).cells13
                                      clear b3 q0 q1 q2 q3 q4 q5 q6 q7 q8 q9 q10 q11 q12
                                      go_wp2_with fail
                                      go_ret
                                      exact ⟨ret_bool X.out.symm, B3.out⟩
                                | false =>
                                  cases k8 : (x.kind == 8) with
                                  | true =>
                                    have E4 : Hid (T = (x.bal == 0 && no)) := by
                                      show _ = _
                                      apply E3.out
                                      have hk : x.kind = 8 := by simpa using k8
                                      have l1 := L1.out; have s1 := S1.out; have s2 := S2.out; have s3 := S3.out; have s4 := S4.out; have no1 := NO.out; have ri1 := RI.out
                                      simp [formOk, hk, l1, s1, s2, s3, s4, no1, ri1]
                                    clear E3
                                    cases b0 : (x.bal == 0) with
                                    | false =>
                                      have X : Hid (T = false) := by show _ = _; rw [E4.out, b0]; rfl
                                      go_wp2_with fail
                                      go_ret
                                      exact ⟨ret_bool X.out.symm, B2w.out⟩
                                    | true =>
                                      have X : Hid (T = no) := by show _ = _; rw [E4.out, b0]; simp
                                      go_wp2_with fail
                                      go_ret
                                      exact ⟨ret_bool X.out.symm, B2w.out⟩
                                  | false =>
                                    have X : Hid (T = false) := by
                                      show _ = _
                                      apply E3.out
                                      have g1 : x.kind ≠ 1 := by simpa using k1
                                      have g2 : x.kind ≠ 2 := by simpa using k2
                                      have g3 : x.kind ≠ 3 := by simpa using k3
                                      have g4 : x.kind ≠ 4 := by simpa using k4
                                      have g5 : x.kind ≠ 5 := by simpa using k5
                                      have g6 : x.kind ≠ 6 := by simpa using k6
                                      have g7 : x.kind ≠ 7 := by simpa using k7
                                      have g8 : x.kind ≠ 8 := by simpa using k8
                                      simp [formOk, g1, g2, g3, g4, g5, g6, g7, g8]
                                    clear E3
                                    go_wp2_with fail
                                    go_ret
                                    exact ⟨ret_bool X.out.symm, B2w.out⟩
end Go.Proofs.Ytbbbfnfpmaogoaa.Own
