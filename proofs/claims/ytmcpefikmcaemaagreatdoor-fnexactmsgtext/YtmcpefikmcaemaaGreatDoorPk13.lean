/-
  Own texts, bundled: EntOkC, SameVote, VotesI.
-/
import Derived.Test.YtmcpefikmcaemaaGreatDoorPk12
import Derived.Test.YtmcpefikmcaemaaGreatDoorPk10
import Derived.Deep.Cut
namespace Go.Proofs.YtmcpefikmcaemaaGreatDoor.Own
open Go.RowKit
set_option linter.unusedVariables false
set_option linter.unusedSimpArgs false

set_option maxRecDepth 100000 in
set_option maxHeartbeats 1000000 in
theorem implCertEntry (n : Bool) (p q : Int) (a1 a2 : Option Addr) (c1 c2 : Nat) (xs ys : List P2) (v k : Int) (w : World) (h1 : Sl w a1 xs) (h2 : Sl w a2 ys) (n1 : xs.length ≤ 2 ^ 40) (n2 : ys.length ≤ 2 ^ 40) :
    Calls Tryz.prog 82 #[.agg #[.bool n, .int .i64 p, .int .i64 q, .slice a1 xs.length c1, .slice a2 ys.length c2, .int .i64 v, .int .i64 k]] w fun e w' => e = .returned (.bool (entOk n p q xs ys v k)) ∧ Below w.heap.size w w' := by
  have H1 : Hid (Sl w a1 xs) := h1
  have H2 : Hid (Sl w a2 ys) := h2
  clear h1 h2
  obtain ⟨W, hW⟩ : ∃ W, W = w.alloc (.cells #[.bool n, .int .i64 p, .int .i64 q, .slice a1 xs.length c1, .slice a2 ys.length c2, .int .i64 v, .int .i64 k] 30) := ⟨_, rfl⟩
  have BW : Hid (Below w.heap.size w W) := by show Below _ _ _; rw [hW]; exact (Below.refl _ _).alloc (Nat.le_refl _) _
  have HW : Hid (W = _) := hW
  clear hW
  cases n with
  | false =>
    have E : Hid (entOk false p q xs ys v k = (reqOk p q && execOk xs ys v k && k != 3)) := rfl
    go_enter Tryz.func82, Tryz.ntmps82
    go_wp2_with fail
    rw [← HW.out]
    refine (implEntryOf _ _ _ _ _ _ _ W).mono ?_
    rintro e w1 ⟨rfl, b1⟩
    have B1 : Hid (Below w.heap.size w w1) := BW.out.trans (b1.mono BW.out.size)
    clear b1
    simp only [Bool.false_eq_true, if_false]
    go_wp2_with fail
    refine (implRunRight false p q a1 a2 c1 c2 xs ys v k w1 (H1.out.below B1.out) (H2.out.below B1.out) n1 n2).mono ?_
    rintro e w2 ⟨rfl, b2⟩
    have B2 : Hid (Below w.heap.size w w2) := B1.out.trans (b2.mono B1.out.size)
    clear b2
    rw [← E.out]
    generalize hr : entOk false p q xs ys v k = r
    have HR : Hid (_ = r) := hr
    clear hr
    go_wp2_with fail
    go_ret
    exact ⟨ret_bool HR.out.symm, B2.out⟩
  | true =>
    have E : Hid (entOk true p q xs ys v k = likeE true true (p, q) (0, 0) xs ys [] [] v k 0 0) := rfl
    go_enter Tryz.func82, Tryz.ntmps82
    go_wp2_with fail
    rw [← HW.out]
    refine (implEntryOf _ _ _ _ _ _ _ W).mono ?_
    rintro e w1 ⟨rfl, b1⟩
    have B1 : Hid (Below w.heap.size w w1) := BW.out.trans (b1.mono BW.out.size)
    clear b1
    simp only [if_true]
    go_wp2_with fail
    refine (implEmptyRight true p q a1 a2 c1 c2 xs ys v k w1 (H1.out.below B1.out) (H2.out.below B1.out) n1 n2).mono ?_
    rintro e w2 ⟨rfl, b2⟩
    have B2 : Hid (Below w.heap.size w w2) := B1.out.trans (b2.mono B1.out.size)
    clear b2
    rw [← E.out]
    generalize hr : entOk true p q xs ys v k = r
    have HR : Hid (_ = r) := hr
    clear hr
    go_wp2_with fail
    go_ret
    exact ⟨ret_bool HR.out.symm, B2.out⟩
end Go.Proofs.YtmcpefikmcaemaaGreatDoor.Own

namespace Go.Proofs.YtmcpefikmcaemaaGreatDoor.Own
open Go.RowKit
set_option linter.unusedVariables false
set_option linter.unusedSimpArgs false

set_option maxRecDepth 100000 in
set_option maxHeartbeats 1000000 in
theorem implSameVote (m m' : Int) (n n' : Bool) (p q p' q' : Int) (a1 a2 b1 b2 : Option Addr) (c1 c2 d1 d2 : Nat) (xs ys zs us : List P2) (v k v' k' : Int) (w : World) (h1 : Sl w a1 xs) (h2 : Sl w a2 ys) (h3 : Sl w b1 zs) (h4 : Sl w b2 us)
    (n1 : xs.length ≤ 2 ^ 40) (n2 : ys.length ≤ 2 ^ 40) (n3 : zs.length ≤ 2 ^ 40) (n4 : us.length ≤ 2 ^ 40) :
    Calls Tryz.prog 44 #[.agg #[.int .i64 m, .bool n, .int .i64 p, .int .i64 q, .slice a1 xs.length c1, .slice a2 ys.length c2, .int .i64 v, .int .i64 k], .agg #[.int .i64 m', .bool n', .int .i64 p', .int .i64 q', .slice b1 zs.length d1, .slice b2 us.length d2, .int .i64 v', .int .i64 k']] w fun e w' => e = .returned (.bool (sameV (m, ⟨n, p, q, xs, ys, v, k⟩) (m', ⟨n', p', q', zs, us, v', k'⟩))) ∧ Below w.heap.size w w' := by
  have H1 : Hid (Sl w a1 xs) := h1
  have H2 : Hid (Sl w a2 ys) := h2
  have H3 : Hid (Sl w b1 zs) := h3
  have H4 : Hid (Sl w b2 us) := h4
  clear h1 h2 h3 h4
  have E : Hid (sameV (m, ⟨n, p, q, xs, ys, v, k⟩) (m', ⟨n', p', q', zs, us, v', k'⟩) = (m == m' && likeE n n' (p, q) (p', q') xs ys zs us v k v' k')) := rfl
  generalize sameV (m, ⟨n, p, q, xs, ys, v, k⟩) (m', ⟨n', p', q', zs, us, v', k'⟩) = T at E ⊢
  obtain ⟨W, hW⟩ : ∃ W, W = (w.alloc (.cells #[.int .i64 m, .bool n, .int .i64 p, .int .i64 q, .slice a1 xs.length c1, .slice a2 ys.length c2, .int .i64 v, .int .i64 k] 98)).alloc (.cells #[.int .i64 m', .bool n', .int .i64 p', .int .i64 q', .slice b1 zs.length d1, .slice b2 us.length d2, .int .i64 v', .int .i64 k'] 98) := ⟨_, rfl⟩
  have BW : Hid (Below w.heap.size w W) := by
    show Below _ _ _
    rw [hW]; exact ((Below.refl _ _).alloc (Nat.le_refl _) _).alloc (by simp) _
  have HW : Hid (W = _) := hW
  clear hW
  cases hm : (m == m') with
  | false =>
    have F : Hid (T = false) := by show _ = _; rw [E.out, hm]; rfl
    clear E
    go_enter Tryz.func44, Tryz.ntmps44
    go_wp2_with fail
    go_ret
    exact ⟨ret_bool F.out.symm, by rw [← HW.out]; exact BW.out⟩
  | true =>
    have F : Hid (T = likeE n n' (p, q) (p', q') xs ys zs us v k v' k') := by show _ = _; rw [E.out, hm]; rfl
    clear E
    go_enter Tryz.func44, Tryz.ntmps44
    go_wp2_with fail
    rw [← HW.out]
    refine (implCertLike n n' p q p' q' a1 a2 b1 b2 c1 c2 d1 d2 xs ys zs us v k v' k' W (H1.out.below BW.out) (H2.out.below BW.out) (H3.out.below BW.out) (H4.out.below BW.out) n1 n2 n3 n4).mono ?_
    rintro e w1 ⟨rfl, b1'⟩
    have B1 : Hid (Below w.heap.size w w1) := BW.out.trans (b1'.mono BW.out.size)
    clear b1'
    generalize likeE n n' (p, q) (p', q') xs ys zs us v k v' k' = r at F ⊢
    go_wp2_with fail
    go_ret
    exact ⟨ret_bool F.out.symm, B1.out⟩

set_option maxRecDepth 100000 in
set_option maxHeartbeats 2000000 in
theorem implBars (l m : Int) (n : Bool) (p q : Int) (a1 a2 : Option Addr) (c1 c2 : Nat) (xs ys : List P2) (v k : Int) (w : World) (h1 : Sl w a1 xs) (h2 : Sl w a2 ys) (n1 : xs.length ≤ 2 ^ 40) (n2 : ys.length ≤ 2 ^ 40) :
    Calls Tryz.prog 158 #[.int .i64 l, .agg #[.int .i64 m, .bool n, .int .i64 p, .int .i64 q, .slice a1 xs.length c1, .slice a2 ys.length c2, .int .i64 v, .int .i64 k]] w fun e w' => e = .returned (.bool (barsV l (m, ⟨n, p, q, xs, ys, v, k⟩))) ∧ Below w.heap.size w w' := by
  have H1 : Hid (Sl w a1 xs) := h1
  have H2 : Hid (Sl w a2 ys) := h2
  clear h1 h2
  have E : Hid (barsV l (m, ⟨n, p, q, xs, ys, v, k⟩) = if sameV (m, ⟨n, p, q, xs, ys, v, k⟩) (0, ⟨false, 0, 0, [], [], 0, 0⟩) then false else !isBal m || decide (m > l) || !entOk n p q xs ys v k) := rfl
  generalize barsV l (m, ⟨n, p, q, xs, ys, v, k⟩) = T at E ⊢
  obtain ⟨W, hW⟩ : ∃ W, W = w.alloc (.cells #[.int .i64 m, .bool n, .int .i64 p, .int .i64 q, .slice a1 xs.length c1, .slice a2 ys.length c2, .int .i64 v, .int .i64 k] 98) := ⟨_, rfl⟩
  have BW : Hid (Below w.heap.size w W) := by show Below _ _ _; rw [hW]; exact (Below.refl _ _).alloc (Nat.le_refl _) _
  have G0 : Hid (Blk W w.heap.size #[.int .i64 m, .bool n, .int .i64 p, .int .i64 q, .slice a1 xs.length c1, .slice a2 ys.length c2, .int .i64 v, .int .i64 k] 98) := by show Blk _ _ _ _; rw [hW]; exact Blk.new _ _ _
  have HW : Hid (W = _) := hW
  clear hW
  go_enter Tryz.func158, Tryz.ntmps158
  go_wp2_with fail
  rw [← HW.out]
  refine (implSameVote m 0 n false p q 0 0 a1 a2 none none c1 c2 0 0 xs ys [] [] v k 0 0 W (H1.out.below BW.out) (H2.out.below BW.out) (.inl rfl) (.inl rfl) n1 n2 (by simp) (by simp)).mono ?_
  rintro e w1 ⟨rfl, b1'⟩
  have B1 : Hid (Below w.heap.size w w1) := BW.out.trans (b1'.mono BW.out.size)
  obtain ⟨q0, q1, q2, q3, q4, q5, q6, q7⟩ := (G0.out.keep b1').cells8
  clear b1'
  generalize sameV (m, ⟨n, p, q, xs, ys, v, k⟩) (0, ⟨false, 0, 0, [], [], 0, 0⟩) = s at E ⊢
  cases s with
  | true =>
    have F : Hid (T = false) := by show _ = _; rw [E.out]; rfl
    clear E
    go_wp2_with fail
    go_ret
    exact ⟨ret_bool F.out.symm, B1.out⟩
  | false =>
    have E2 : Hid (T = (!isBal m || decide (m > l) || !entOk n p q xs ys v k)) := by show _ = _; rw [E.out]; rfl
    clear E
    go_wp2_with fail
    refine (implIsBallot m w1).mono ?_
    rintro e w2 ⟨rfl, rfl⟩
    generalize isBal m = r at E2 ⊢
    cases r with
    | false =>
      have F : Hid (T = true) := by show _ = _; rw [E2.out]; rfl
      clear E2
      go_wp2_with fail
      go_ret
      exact ⟨ret_bool F.out.symm, B1.out⟩
    | true =>
      by_cases hl : m > l
      · have F : Hid (T = true) := by show _ = _; rw [E2.out]; simp [hl]
        clear E2
        go_wp2_with fail
        go_ret
        exact ⟨ret_bool F.out.symm, B1.out⟩
      · have F : Hid (T = (decide (l < m) || !entOk n p q xs ys v k)) := by show _ = _; rw [E2.out]; simp
        clear E2
        go_wp2_with fail
        refine (implCertEntry n p q a1 a2 c1 c2 xs ys v k w2 (H1.out.below B1.out) (H2.out.below B1.out) n1 n2).mono ?_
        rintro e w3 ⟨rfl, b3⟩
        have B3 : Hid (Below w.heap.size w w3) := B1.out.trans (b3.mono B1.out.size)
        clear b3
        generalize entOk n p q xs ys v k = r3 at F ⊢
        go_wp2_with fail
        go_ret
        exact ⟨ret_bool F.out.symm, B3.out⟩
end Go.Proofs.YtmcpefikmcaemaaGreatDoor.Own

namespace Go.Proofs.YtmcpefikmcaemaaGreatDoor.Own
open Go.RowKit
set_option linter.unusedVariables false
set_option linter.unusedSimpArgs false

set_option maxRecDepth 100000 in
set_option maxHeartbeats 2000000 in
theorem indexBars (l : Int) (a : Option Addr) (c : Nat) (vs : List VM) (w : World) (h : SlV w a vs) (hn : vs.length ≤ 2 ^ 40) (hl : VLs vs) :
    Calls Tryz.prog 172 #[.slice a vs.length c, .func (.func 158) #[.int .i64 l] #[]] w fun e w' => (∃ z : Int, e = .returned (.int .i64 z) ∧ decide (0 ≤ z) = (bodies vs).any (barsV l)) ∧ Below w.heap.size w w' := by
  have HS : Hid (SlV w a vs) := h
  have HL : Hid (VLs vs) := hl
  clear h hl
  have E2 : Hid (∀ i, i < vs.length → barsV l (vs.getD i v0).body = true → (bodies vs).any (barsV l) = true) := fun i hi h => anyV_hit (0, e0) (i := i) (by rw [bodies_len]; exact hi) (by rw [bodies_getD]; exact h)
  have E3 : Hid ((∀ i, i < vs.length → barsV l (vs.getD i v0).body = false) → (bodies vs).any (barsV l) = false) := fun h2 => anyV_at (0, e0) (fun i hi => by rw [bodies_getD]; exact h2 i (by rw [bodies_len] at hi; exact hi))
  generalize (bodies vs).any (barsV l) = T at E2 E3 ⊢
  go_enter Tryz.func172, Tryz.ntmps172
  go_wp2_with fail
  go_loopw [8] (fun i wr => ∃ k : Nat, k ≤ vs.length ∧ i = .int .i64 k ∧ Hid (∀ j, j < k → barsV l (vs.getD j v0).body = false) ∧ Hid (Below w.heap.size w wr)) (fun i _ => vs.length - (intOf i).toNat)
  case atStart => exact ⟨0, Nat.zero_le _, rfl, fun j hj => by omega, Below.refl _ _⟩
  case round =>
    obtain ⟨k, hk, rfl, HA, KB⟩ := hrel
    by_cases hlt : k < vs.length
    · have hki : (k : Int) < (vs.length : Int) := by omega
      rcases HS.out.below KB.out with hh | ⟨b, off, rfl, _, hh⟩
      · rw [hh] at hlt; simp at hlt
      obtain ⟨⟨d0, d1, d2, d3, d4, d5, d6, d7⟩, s1, s2⟩ := hh k hlt
      have NX : Hid (∀ y, barsV l (vs.getD k v0).body = y → (y = true → T = true) ∧ (y = false → ∀ j, j < k + 1 → barsV l (vs.getD j v0).body = false)) := fun y hy => ⟨fun h => E2.out k hlt (by rw [hy, h]), fun h j hj => by
        by_cases e : j = k
        · subst e; rw [hy, h]
        · exact HA.out j (by omega)⟩
      have LX := HL.out k hlt
      have SX : Hid (Sl wr (vs.getD k v0).a1 (vs.getD k v0).b.xs ∧ Sl wr (vs.getD k v0).a2 (vs.getD k v0).b.ys) := ⟨s1, s2⟩
      clear hh s1 s2
      obtain ⟨x, hx⟩ : ∃ x, x = vs.getD k v0 := ⟨_, rfl⟩
      rw [← hx] at d0 d1 d2 d3 d4 d5 d6 d7 LX SX
      have NX2 : Hid (∀ y, barsV l x.body = y → (y = true → T = true) ∧ (y = false → ∀ j, j < k + 1 → barsV l (vs.getD j v0).body = false)) := fun y hy => NX.out y (by rw [← hx]; exact hy)
      clear NX hx
      obtain ⟨xbal, ⟨xn, xp, xq, xxs, xys, xv, xk⟩, xa1, xc1, xa2, xc2⟩ := x
      simp only [VM.body] at d0 d1 d2 d3 d4 d5 d6 d7 LX SX NX2
      go_wp2_with fail
      refine (implBars l xbal xn xp xq xa1 xa2 xc1 xc2 xxs xys xv xk wr SX.out.1 SX.out.2 LX.1 LX.2.1).mono ?_
      rintro e w1 ⟨rfl, hw⟩
      have B1 : Hid (Below w.heap.size w w1) := KB.out.trans (hw.mono KB.out.size)
      have N3 := NX2.out _ rfl
      clear hw NX2 d0 d1 d2 d3 d4 d5 d6 d7
      generalize barsV l (xbal, ⟨xn, xp, xq, xxs, xys, xv, xk⟩) = y at N3 ⊢
      cases y with
      | true =>
        have F : Hid (T = true) := N3.1 rfl
        clear N3
        go_wp2_with fail
        go_ret
        exact ⟨⟨(k : Int), rfl, by rw [F.out]; simp⟩, B1.out⟩
      | false =>
        have F : Hid (∀ j, j < k + 1 → barsV l (vs.getD j v0).body = false) := N3.2 rfl
        clear N3
        go_wp2_with fail
        go_roundw
        case rel => exact ⟨k + 1, by omega, by go_num, F.out, B1.out⟩
        case measure => simp [intOf]; omega
    · have hki : ¬ (k : Int) < (vs.length : Int) := by omega
      have F : Hid (T = false) := E3.out (fun i hi => HA.out i (by omega))
      go_wp2_with fail
      go_ret
      exact ⟨⟨-1, rfl, by rw [F.out]; decide⟩, KB.out⟩

set_option maxRecDepth 100000 in
set_option maxHeartbeats 1000000 in
theorem containsBars (l : Int) (a : Option Addr) (c : Nat) (vs : List VM) (w : World) (h : SlV w a vs) (hn : vs.length ≤ 2 ^ 40) (hl : VLs vs) :
    Calls Tryz.prog 157 #[.slice a vs.length c, .func (.func 158) #[.int .i64 l] #[]] w fun e w' => e = .returned (.bool ((bodies vs).any (barsV l))) ∧ Below w.heap.size w w' := by
  have HC : Hid _ := indexBars l a c vs w h hn hl
  clear h hl
  generalize (bodies vs).any (barsV l) = T at HC ⊢
  go_enter Tryz.func157, Tryz.ntmps157
  go_wp2_with fail
  refine Calls.mono HC.out ?_
  rintro e w1 ⟨⟨z, rfl, hz⟩, b1⟩
  have B1 : Hid (Below w.heap.size w w1) := b1
  have HZ : Hid (decide (0 ≤ z) = T) := hz
  clear b1 hz
  go_wp2_with fail
  go_ret
  exact ⟨ret_bool HZ.out, B1.out⟩

set_option maxRecDepth 100000 in
set_option maxHeartbeats 1000000 in
theorem implVotesOk (l : Int) (a : Option Addr) (c : Nat) (vs : List VM) (w : World) (h : SlV w a vs) (hn : vs.length ≤ 2 ^ 40) (hl : VLs vs) :
    Calls Tryz.prog 124 #[.slice a vs.length c, .int .i64 l] w fun e w' => e = .returned (.bool (votesUpto l (bodies vs))) ∧ Below w.heap.size w w' := by
  have E : Hid (votesUpto l (bodies vs) = (decide (vs.length ≤ 40) && !(bodies vs).any (barsV l))) := by show _ = _; unfold votesUpto; rw [bodies_len]
  have HC : Hid _ := containsBars l a c vs w h hn hl
  clear h hl
  generalize votesUpto l (bodies vs) = T at E ⊢
  generalize (bodies vs).any (barsV l) = U at E HC
  by_cases h40 : vs.length ≤ 40
  · have F : Hid (T = !U) := by show _ = _; rw [E.out]; simp [h40]
    have hd : decide ((vs.length : Int) ≤ 40) = true := decide_eq_true (by omega)
    have hmf : ∀ (fn : Fn) (first cap : Array Value) (w : World), (Instr.makeFunc fn first cap).run Tryz.prog w = .ok (.func fn first cap) w := fun _ _ _ _ => rfl
    clear E h40
    go_enter Tryz.func124, Tryz.ntmps124
    go_wp2_with fail
    refine Calls.mono HC.out ?_
    rintro e w1 ⟨rfl, b1⟩
    have B1 : Hid (Below w.heap.size w w1) := b1
    clear b1
    go_wp2_with fail
    go_ret
    exact ⟨ret_bool F.out.symm, B1.out⟩
  · have F : Hid (T = false) := by show _ = _; rw [E.out]; simp [h40]
    have hd : decide ((vs.length : Int) ≤ 40) = false := decide_eq_false (by omega)
    clear E h40
    go_enter Tryz.func124, Tryz.ntmps124
    go_wp2_with fail
    go_ret
    exact ⟨ret_bool F.out.symm, Below.refl _ _⟩
end Go.Proofs.YtmcpefikmcaemaaGreatDoor.Own
