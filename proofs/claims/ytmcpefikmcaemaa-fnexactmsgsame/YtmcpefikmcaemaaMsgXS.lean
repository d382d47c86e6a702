/-
  Own text, by program: two messages are compared, both sides.
-/
import Derived.Test.YtmcpefikmcaemaaMsgX
import Derived.Test.YtmcpefikmcaemaaSameVS
import Derived.Test.YtmcpefikmcaemaaSameVI
namespace Go.Proofs.Ytmcpefikmcaemaa.Own
open Go.RowKit
set_option linter.unusedVariables false
set_option linter.unusedSimpArgs false

/-- Two messages are one. -/
def sameM (x y : MM) : Bool := x.kind == y.kind && x.src == y.src && x.dst == y.dst && x.bal == y.bal && x.slot == y.slot && likeE x.b.n y.b.n (x.b.p, x.b.q) (y.b.p, y.b.q) x.b.xs x.b.ys y.b.xs y.b.ys x.b.v x.b.k y.b.v y.b.k && sameVs (bodies x.vs) (bodies y.vs)
theorem sameM_cp (x y : MM) (g g' : GM) : sameM (cpM g x) (cpM g' y) = sameM x y := by simp only [sameM, cpM, vmsOf_bodies]

set_option maxRecDepth 100000 in
set_option maxHeartbeats 2000000 in
theorem specMsgSame (x y : MM) (w : World) (h1 : AtM w x) (h2 : AtM w y) (f1 : FitM x) (f2 : FitM y) :
    Calls Try.prog 20 #[.agg #[.int .i64 x.kind, .int .i64 x.src, .int .i64 x.dst, .int .i64 x.bal, .int .i64 x.slot, .bool x.b.n, .int .i64 x.b.p, .int .i64 x.b.q, .slice x.a1 x.b.xs.length x.c1, .slice x.a2 x.b.ys.length x.c2, .int .i64 x.b.v, .int .i64 x.b.k, .slice x.a x.vs.length x.c], .agg #[.int .i64 y.kind, .int .i64 y.src, .int .i64 y.dst, .int .i64 y.bal, .int .i64 y.slot, .bool y.b.n, .int .i64 y.b.p, .int .i64 y.b.q, .slice y.a1 y.b.xs.length y.c1, .slice y.a2 y.b.ys.length y.c2, .int .i64 y.b.v, .int .i64 y.b.k, .slice y.a y.vs.length y.c]] w fun e w' => e = .returned (.bool (sameM x y)) ∧ Below w.heap.size w w' := by
  have H1 : Hid (AtM w x) := h1
  have H2 : Hid (AtM w y) := h2
  have F1 : Hid (FitM x) := f1
  have F2 : Hid (FitM y) := f2
  clear h1 h2 f1 f2
  have E : Hid (sameM x y = (x.kind == y.kind && x.src == y.src && x.dst == y.dst && x.bal == y.bal && x.slot == y.slot && likeE x.b.n y.b.n (x.b.p, x.b.q) (y.b.p, y.b.q) x.b.xs x.b.ys y.b.xs y.b.ys x.b.v x.b.k y.b.v y.b.k && sameVs (bodies x.vs) (bodies y.vs))) := rfl
  generalize sameM x y = T at E ⊢
  obtain ⟨W, hW⟩ : ∃ W, W = (w.alloc (.cells #[.int .i64 x.kind, .int .i64 x.src, .int .i64 x.dst, .int .i64 x.bal, .int .i64 x.slot, .bool x.b.n, .int .i64 x.b.p, .int .i64 x.b.q, .slice x.a1 x.b.xs.length x.c1, .slice x.a2 x.b.ys.length x.c2, .int .i64 x.b.v, .int .i64 x.b.k, .slice x.a x.vs.length x.c] 44)).alloc (.cells #[.int .i64 y.kind, .int .i64 y.src, .int .i64 y.dst, .int .i64 y.bal, .int .i64 y.slot, .bool y.b.n, .int .i64 y.b.p, .int .i64 y.b.q, .slice y.a1 y.b.xs.length y.c1, .slice y.a2 y.b.ys.length y.c2, .int .i64 y.b.v, .int .i64 y.b.k, .slice y.a y.vs.length y.c] 44) := ⟨_, rfl⟩
  have BW : Hid (Below w.heap.size w W) := by
    show Below _ _ _
    rw [hW]; exact ((Below.refl _ _).alloc (Nat.le_refl _) _).alloc (by simp) _
  have G0 : Hid (Blk W w.heap.size #[.int .i64 x.kind, .int .i64 x.src, .int .i64 x.dst, .int .i64 x.bal, .int .i64 x.slot, .bool x.b.n, .int .i64 x.b.p, .int .i64 x.b.q, .slice x.a1 x.b.xs.length x.c1, .slice x.a2 x.b.ys.length x.c2, .int .i64 x.b.v, .int .i64 x.b.k, .slice x.a x.vs.length x.c] 44) := by show Blk _ _ _ _; rw [hW]; exact (Blk.new _ _ _).alloc _
  have G1 : Hid (Blk W (w.heap.size + 1) #[.int .i64 y.kind, .int .i64 y.src, .int .i64 y.dst, .int .i64 y.bal, .int .i64 y.slot, .bool y.b.n, .int .i64 y.b.p, .int .i64 y.b.q, .slice y.a1 y.b.xs.length y.c1, .slice y.a2 y.b.ys.length y.c2, .int .i64 y.b.v, .int .i64 y.b.k, .slice y.a y.vs.length y.c] 44) := by show Blk _ _ _ _; rw [hW]; exact Blk.new2 _ _ _ _
  have HW : Hid (W = _) := hW
  clear hW
  cases k0 : (x.kind == y.kind) with
  | false =>
    have F : Hid (T = false) := by show _ = _; rw [E.out, k0]; simp
    clear E
    go_enter Try.func20, Try.ntmps20
    go_wp2_with fail
    go_ret
    exact ⟨ret_bool F.out.symm, by rw [← HW.out]; exact BW.out⟩
  | true =>
    cases k1 : (x.src == y.src) with
    | false =>
      have F : Hid (T = false) := by show _ = _; rw [E.out, k1]; simp
      clear E
      go_enter Try.func20, Try.ntmps20
      go_wp2_with fail
      go_ret
      exact ⟨ret_bool F.out.symm, by rw [← HW.out]; exact BW.out⟩
    | true =>
      cases k2 : (x.dst == y.dst) with
      | false =>
        have F : Hid (T = false) := by show _ = _; rw [E.out, k2]; simp
        clear E
        go_enter Try.func20, Try.ntmps20
        go_wp2_with fail
        go_ret
        exact ⟨ret_bool F.out.symm, by rw [← HW.out]; exact BW.out⟩
      | true =>
        cases k3 : (x.bal == y.bal) with
        | false =>
          have F : Hid (T = false) := by show _ = _; rw [E.out, k3]; simp
          clear E
          go_enter Try.func20, Try.ntmps20
          go_wp2_with fail
          go_ret
          exact ⟨ret_bool F.out.symm, by rw [← HW.out]; exact BW.out⟩
        | true =>
          cases k4 : (x.slot == y.slot) with
          | false =>
            have F : Hid (T = false) := by show _ = _; rw [E.out, k4]; simp
            clear E
            go_enter Try.func20, Try.ntmps20
            go_wp2_with fail
            go_ret
            exact ⟨ret_bool F.out.symm, by rw [← HW.out]; exact BW.out⟩
          | true =>
            have E2 : Hid (T = (likeE x.b.n y.b.n (x.b.p, x.b.q) (y.b.p, y.b.q) x.b.xs x.b.ys y.b.xs y.b.ys x.b.v x.b.k y.b.v y.b.k && sameVs (bodies x.vs) (bodies y.vs))) := by show _ = _; rw [E.out, k0, k1, k2, k3, k4]; rfl
            clear E
            go_enter Try.func20, Try.ntmps20
            go_wp2_with fail
            rw [← HW.out]
            refine (specCertLike x.b.n y.b.n x.b.p x.b.q y.b.p y.b.q x.a1 x.a2 y.a1 y.a2 x.c1 x.c2 y.c1 y.c2 x.b.xs x.b.ys y.b.xs y.b.ys x.b.v x.b.k y.b.v y.b.k W (H1.out.1.below BW.out) (H1.out.2.1.below BW.out) (H2.out.1.below BW.out) (H2.out.2.1.below BW.out) F1.out.1 F1.out.2.1 F2.out.1 F2.out.2.1).mono ?_
            rintro e w1 ⟨rfl, b1⟩
            have B1 : Hid (Below w.heap.size w w1) := BW.out.trans (b1.mono BW.out.size)
            obtain ⟨q0, q1, q2, q3, q4, q5, q6, q7, q8, q9, q10, q11, q12⟩ := (G0.out.keep b1).cells13
            obtain ⟨r0, r1, r2, r3, r4, r5, r6, r7, r8, r9, r10, r11, r12⟩ := (G1.out.keep b1).cells13
            clear b1
            generalize likeE x.b.n y.b.n (x.b.p, x.b.q) (y.b.p, y.b.q) x.b.xs x.b.ys y.b.xs y.b.ys x.b.v x.b.k y.b.v y.b.k = z at E2 ⊢
            cases z with
            | false =>
              have F : Hid (T = false) := by show _ = _; rw [E2.out]; rfl
              clear E2
              go_wp2_with fail
              go_ret
              exact ⟨ret_bool F.out.symm, B1.out⟩
            | true =>
              have F : Hid (T = sameVs (bodies x.vs) (bodies y.vs)) := by show _ = _; rw [E2.out]; rfl
              clear E2
              go_wp2_with fail
              refine (specSame x.a y.a x.c y.c x.vs y.vs w1 (H1.out.2.2.below B1.out) (H2.out.2.2.below B1.out) F1.out.2.2.2.2.1 F2.out.2.2.2.2.1 F1.out.2.2.2.2.2 F2.out.2.2.2.2.2).mono ?_
              rintro e w2 ⟨rfl, b2⟩
              have B2 : Hid (Below w.heap.size w w2) := B1.out.trans (b2.mono B1.out.size)
              clear b2 q0 q1 q2 q3 q4 q5 q6 q7 q8 q9 q10 q11 q12 r0 r1 r2 r3 r4 r5 r6 r7 r8 r9 r10 r11 r12
              generalize sameVs (bodies x.vs) (bodies y.vs) = u at F ⊢
              go_wp2_with fail
              go_ret
              exact ⟨ret_bool F.out.symm, B2.out⟩

set_option maxRecDepth 100000 in
set_option maxHeartbeats 2000000 in
theorem implMsgSame (x y : MM) (w : World) (h1 : AtM w x) (h2 : AtM w y) (f1 : FitM x) (f2 : FitM y) :
    Calls Try.prog 21 #[.agg #[.int .i64 x.kind, .int .i64 x.src, .int .i64 x.dst, .int .i64 x.bal, .int .i64 x.slot, .bool x.b.n, .int .i64 x.b.p, .int .i64 x.b.q, .slice x.a1 x.b.xs.length x.c1, .slice x.a2 x.b.ys.length x.c2, .int .i64 x.b.v, .int .i64 x.b.k, .slice x.a x.vs.length x.c], .agg #[.int .i64 y.kind, .int .i64 y.src, .int .i64 y.dst, .int .i64 y.bal, .int .i64 y.slot, .bool y.b.n, .int .i64 y.b.p, .int .i64 y.b.q, .slice y.a1 y.b.xs.length y.c1, .slice y.a2 y.b.ys.length y.c2, .int .i64 y.b.v, .int .i64 y.b.k, .slice y.a y.vs.length y.c]] w fun e w' => e = .returned (.bool (sameM x y)) ∧ Below w.heap.size w w' := by
  have H1 : Hid (AtM w x) := h1
  have H2 : Hid (AtM w y) := h2
  have F1 : Hid (FitM x) := f1
  have F2 : Hid (FitM y) := f2
  clear h1 h2 f1 f2
  have E : Hid (sameM x y = (x.kind == y.kind && x.src == y.src && x.dst == y.dst && x.bal == y.bal && x.slot == y.slot && likeE x.b.n y.b.n (x.b.p, x.b.q) (y.b.p, y.b.q) x.b.xs x.b.ys y.b.xs y.b.ys x.b.v x.b.k y.b.v y.b.k && sameVs (bodies x.vs) (bodies y.vs))) := rfl
  generalize sameM x y = T at E ⊢
  obtain ⟨W, hW⟩ : ∃ W, W = (w.alloc (.cells #[.int .i64 x.kind, .int .i64 x.src, .int .i64 x.dst, .int .i64 x.bal, .int .i64 x.slot, .bool x.b.n, .int .i64 x.b.p, .int .i64 x.b.q, .slice x.a1 x.b.xs.length x.c1, .slice x.a2 x.b.ys.length x.c2, .int .i64 x.b.v, .int .i64 x.b.k, .slice x.a x.vs.length x.c] 44)).alloc (.cells #[.int .i64 y.kind, .int .i64 y.src, .int .i64 y.dst, .int .i64 y.bal, .int .i64 y.slot, .bool y.b.n, .int .i64 y.b.p, .int .i64 y.b.q, .slice y.a1 y.b.xs.length y.c1, .slice y.a2 y.b.ys.length y.c2, .int .i64 y.b.v, .int .i64 y.b.k, .slice y.a y.vs.length y.c] 44) := ⟨_, rfl⟩
  have BW : Hid (Below w.heap.size w W) := by
    show Below _ _ _
    rw [hW]; exact ((Below.refl _ _).alloc (Nat.le_refl _) _).alloc (by simp) _
  have G0 : Hid (Blk W w.heap.size #[.int .i64 x.kind, .int .i64 x.src, .int .i64 x.dst, .int .i64 x.bal, .int .i64 x.slot, .bool x.b.n, .int .i64 x.b.p, .int .i64 x.b.q, .slice x.a1 x.b.xs.length x.c1, .slice x.a2 x.b.ys.length x.c2, .int .i64 x.b.v, .int .i64 x.b.k, .slice x.a x.vs.length x.c] 44) := by show Blk _ _ _ _; rw [hW]; exact (Blk.new _ _ _).alloc _
  have G1 : Hid (Blk W (w.heap.size + 1) #[.int .i64 y.kind, .int .i64 y.src, .int .i64 y.dst, .int .i64 y.bal, .int .i64 y.slot, .bool y.b.n, .int .i64 y.b.p, .int .i64 y.b.q, .slice y.a1 y.b.xs.length y.c1, .slice y.a2 y.b.ys.length y.c2, .int .i64 y.b.v, .int .i64 y.b.k, .slice y.a y.vs.length y.c] 44) := by show Blk _ _ _ _; rw [hW]; exact Blk.new2 _ _ _ _
  have HW : Hid (W = _) := hW
  clear hW
  cases k0 : (x.kind == y.kind) with
  | false =>
    have F : Hid (T = false) := by show _ = _; rw [E.out, k0]; simp
    clear E
    go_enter Try.func21, Try.ntmps21
    go_wp2_with fail
    go_ret
    exact ⟨ret_bool F.out.symm, by rw [← HW.out]; exact BW.out⟩
  | true =>
    cases k1 : (x.src == y.src) with
    | false =>
      have F : Hid (T = false) := by show _ = _; rw [E.out, k1]; simp
      clear E
      go_enter Try.func21, Try.ntmps21
      go_wp2_with fail
      go_ret
      exact ⟨ret_bool F.out.symm, by rw [← HW.out]; exact BW.out⟩
    | true =>
      cases k2 : (x.dst == y.dst) with
      | false =>
        have F : Hid (T = false) := by show _ = _; rw [E.out, k2]; simp
        clear E
        go_enter Try.func21, Try.ntmps21
        go_wp2_with fail
        go_ret
        exact ⟨ret_bool F.out.symm, by rw [← HW.out]; exact BW.out⟩
      | true =>
        cases k3 : (x.bal == y.bal) with
        | false =>
          have F : Hid (T = false) := by show _ = _; rw [E.out, k3]; simp
          clear E
          go_enter Try.func21, Try.ntmps21
          go_wp2_with fail
          go_ret
          exact ⟨ret_bool F.out.symm, by rw [← HW.out]; exact BW.out⟩
        | true =>
          cases k4 : (x.slot == y.slot) with
          | false =>
            have F : Hid (T = false) := by show _ = _; rw [E.out, k4]; simp
            clear E
            go_enter Try.func21, Try.ntmps21
            go_wp2_with fail
            go_ret
            exact ⟨ret_bool F.out.symm, by rw [← HW.out]; exact BW.out⟩
          | true =>
            have E2 : Hid (T = (likeE x.b.n y.b.n (x.b.p, x.b.q) (y.b.p, y.b.q) x.b.xs x.b.ys y.b.xs y.b.ys x.b.v x.b.k y.b.v y.b.k && sameVs (bodies x.vs) (bodies y.vs))) := by show _ = _; rw [E.out, k0, k1, k2, k3, k4]; rfl
            clear E
            go_enter Try.func21, Try.ntmps21
            go_wp2_with fail
            rw [← HW.out]
            refine (implCertLike x.b.n y.b.n x.b.p x.b.q y.b.p y.b.q x.a1 x.a2 y.a1 y.a2 x.c1 x.c2 y.c1 y.c2 x.b.xs x.b.ys y.b.xs y.b.ys x.b.v x.b.k y.b.v y.b.k W (H1.out.1.below BW.out) (H1.out.2.1.below BW.out) (H2.out.1.below BW.out) (H2.out.2.1.below BW.out) F1.out.1 F1.out.2.1 F2.out.1 F2.out.2.1).mono ?_
            rintro e w1 ⟨rfl, b1⟩
            have B1 : Hid (Below w.heap.size w w1) := BW.out.trans (b1.mono BW.out.size)
            obtain ⟨q0, q1, q2, q3, q4, q5, q6, q7, q8, q9, q10, q11, q12⟩ := (G0.out.keep b1).cells13
            obtain ⟨r0, r1, r2, r3, r4, r5, r6, r7, r8, r9, r10, r11, r12⟩ := (G1.out.keep b1).cells13
            clear b1
            generalize likeE x.b.n y.b.n (x.b.p, x.b.q) (y.b.p, y.b.q) x.b.xs x.b.ys y.b.xs y.b.ys x.b.v x.b.k y.b.v y.b.k = z at E2 ⊢
            cases z with
            | false =>
              have F : Hid (T = false) := by show _ = _; rw [E2.out]; rfl
              clear E2
              go_wp2_with fail
              go_ret
              exact ⟨ret_bool F.out.symm, B1.out⟩
            | true =>
              have F : Hid (T = sameVs (bodies x.vs) (bodies y.vs)) := by show _ = _; rw [E2.out]; rfl
              clear E2
              go_wp2_with fail
              refine (equalVotes x.a y.a x.c y.c x.vs y.vs w1 (H1.out.2.2.below B1.out) (H2.out.2.2.below B1.out) F1.out.2.2.2.2.1 F2.out.2.2.2.2.1 F1.out.2.2.2.2.2 F2.out.2.2.2.2.2).mono ?_
              rintro e w2 ⟨rfl, b2⟩
              have B2 : Hid (Below w.heap.size w w2) := B1.out.trans (b2.mono B1.out.size)
              clear b2 q0 q1 q2 q3 q4 q5 q6 q7 q8 q9 q10 q11 q12 r0 r1 r2 r3 r4 r5 r6 r7 r8 r9 r10 r11 r12
              generalize sameVs (bodies x.vs) (bodies y.vs) = u at F ⊢
              go_wp2_with fail
              go_ret
              exact ⟨ret_bool F.out.symm, B2.out⟩

theorem specSameM (x y : MM) (g g' : GM) (w : World) (h : OwnM w g x) (h' : OwnM w g' y) (hs : x.sz ≤ 1048576) (hs' : y.sz ≤ 1048576) :
    Calls Try.prog 20 #[.agg #[.int .i64 x.kind, .int .i64 x.src, .int .i64 x.dst, .int .i64 x.bal, .int .i64 x.slot, .bool x.b.n, .int .i64 x.b.p, .int .i64 x.b.q, .slice (some ⟨g.1, 0, none⟩) x.b.xs.length x.b.xs.length, .slice (some ⟨g.2.1, 0, none⟩) x.b.ys.length x.b.ys.length, .int .i64 x.b.v, .int .i64 x.b.k, .slice (some ⟨g.2.2.1, 0, none⟩) x.vs.length x.vs.length], .agg #[.int .i64 y.kind, .int .i64 y.src, .int .i64 y.dst, .int .i64 y.bal, .int .i64 y.slot, .bool y.b.n, .int .i64 y.b.p, .int .i64 y.b.q, .slice (some ⟨g'.1, 0, none⟩) y.b.xs.length y.b.xs.length, .slice (some ⟨g'.2.1, 0, none⟩) y.b.ys.length y.b.ys.length, .int .i64 y.b.v, .int .i64 y.b.k, .slice (some ⟨g'.2.2.1, 0, none⟩) y.vs.length y.vs.length]] w fun e w' => e = .returned (.bool (sameM x y)) ∧ Below w.heap.size w w' := by
  have h := specMsgSame (cpM g x) (cpM g' y) w h.at h'.at (cpM_fit hs g) (cpM_fit hs' g')
  rw [cpM_cells, cpM_cells, sameM_cp] at h
  exact h
theorem implSameM (x y : MM) (g g' : GM) (w : World) (h : OwnM w g x) (h' : OwnM w g' y) (hs : x.sz ≤ 1048576) (hs' : y.sz ≤ 1048576) :
    Calls Try.prog 21 #[.agg #[.int .i64 x.kind, .int .i64 x.src, .int .i64 x.dst, .int .i64 x.bal, .int .i64 x.slot, .bool x.b.n, .int .i64 x.b.p, .int .i64 x.b.q, .slice (some ⟨g.1, 0, none⟩) x.b.xs.length x.b.xs.length, .slice (some ⟨g.2.1, 0, none⟩) x.b.ys.length x.b.ys.length, .int .i64 x.b.v, .int .i64 x.b.k, .slice (some ⟨g.2.2.1, 0, none⟩) x.vs.length x.vs.length], .agg #[.int .i64 y.kind, .int .i64 y.src, .int .i64 y.dst, .int .i64 y.bal, .int .i64 y.slot, .bool y.b.n, .int .i64 y.b.p, .int .i64 y.b.q, .slice (some ⟨g'.1, 0, none⟩) y.b.xs.length y.b.xs.length, .slice (some ⟨g'.2.1, 0, none⟩) y.b.ys.length y.b.ys.length, .int .i64 y.b.v, .int .i64 y.b.k, .slice (some ⟨g'.2.2.1, 0, none⟩) y.vs.length y.vs.length]] w fun e w' => e = .returned (.bool (sameM x y)) ∧ Below w.heap.size w w' := by
  have h := implMsgSame (cpM g x) (cpM g' y) w h.at h'.at (cpM_fit hs g) (cpM_fit hs' g')
  rw [cpM_cells, cpM_cells, sameM_cp] at h
  exact h
end Go.Proofs.Ytmcpefikmcaemaa.Own
