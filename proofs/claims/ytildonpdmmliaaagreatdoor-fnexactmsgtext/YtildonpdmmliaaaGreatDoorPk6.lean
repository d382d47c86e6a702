/-
  Own texts, bundled: SameVote, VotesI, MsgForm, MsgOkI.
-/
import Derived.Test.YtildonpdmmliaaaGreatDoorPk5
import Derived.Deep.Cut
import Derived.BigQuiet
import Derived.Laws.EntriesVeiled
import Derived.Lib.QuietBelow
namespace Go.Proofs.YtildonpdmmliaaaGreatDoor.Own
open Go.RowKit
set_option linter.unusedVariables false
set_option linter.unusedSimpArgs false

set_option maxRecDepth 100000 in
set_option maxHeartbeats 1000000 in
theorem implSameVote (m m' : Int) (n n' : Bool) (p q p' q' : Int) (a1 a2 b1 b2 : Option Addr) (c1 c2 d1 d2 : Nat) (xs ys zs us : List P2) (v k v' k' : Int) (w : World) (h1 : Sl w a1 xs) (h2 : Sl w a2 ys) (h3 : Sl w b1 zs) (h4 : Sl w b2 us)
    (n1 : xs.length ≤ 2 ^ 40) (n2 : ys.length ≤ 2 ^ 40) (n3 : zs.length ≤ 2 ^ 40) (n4 : us.length ≤ 2 ^ 40) :
    Calls Tryz.prog 78 #[.agg #[.int .i64 m, .bool n, .int .i64 p, .int .i64 q, .slice a1 xs.length c1, .slice a2 ys.length c2, .int .i64 v, .int .i64 k], .agg #[.int .i64 m', .bool n', .int .i64 p', .int .i64 q', .slice b1 zs.length d1, .slice b2 us.length d2, .int .i64 v', .int .i64 k']] w fun e w' => e = .returned (.bool (sameV (m, ⟨n, p, q, xs, ys, v, k⟩) (m', ⟨n', p', q', zs, us, v', k'⟩))) ∧ Below w.heap.size w w' := by
  have H1 : Hid (Sl w a1 xs) := h1
  have H2 : Hid (Sl w a2 ys) := h2
  have H3 : Hid (Sl w b1 zs) := h3
  have H4 : Hid (Sl w b2 us) := h4
  clear h1 h2 h3 h4
  have E : Hid (sameV (m, ⟨n, p, q, xs, ys, v, k⟩) (m', ⟨n', p', q', zs, us, v', k'⟩) = (m == m' && likeE n n' (p, q) (p', q') xs ys zs us v k v' k')) := rfl
  generalize sameV (m, ⟨n, p, q, xs, ys, v, k⟩) (m', ⟨n', p', q', zs, us, v', k'⟩) = T at E ⊢
  obtain ⟨W, hW⟩ : ∃ W, W = (w.alloc (.cells #[.int .i64 m, .bool n, .int .i64 p, .int .i64 q, .slice a1 xs.length c1, .slice a2 ys.length c2, .int .i64 v, .int .i64 k] 56)).alloc (.cells #[.int .i64 m', .bool n', .int .i64 p', .int .i64 q', .slice b1 zs.length d1, .slice b2 us.length d2, .int .i64 v', .int .i64 k'] 56) := ⟨_, rfl⟩
  have BW : Hid (Below w.heap.size w W) := by
    show Below _ _ _
    rw [hW]; exact ((Below.refl _ _).alloc (Nat.le_refl _) _).alloc (by simp) _
  have HW : Hid (W = _) := hW
  clear hW
  cases hm : (m == m') with
  | false =>
    have F : Hid (T = false) := by show _ = _; rw [E.out, hm]; rfl
    clear E
    go_enter Tryz.func78, Tryz.ntmps78
    go_wp2_with fail
    go_ret
    exact ⟨ret_bool F.out.symm, by rw [← HW.out]; exact BW.out⟩
  | true =>
    have F : Hid (T = likeE n n' (p, q) (p', q') xs ys zs us v k v' k') := by show _ = _; rw [E.out, hm]; rfl
    clear E
    go_enter Tryz.func78, Tryz.ntmps78
    go_wp2_with fail
    rw [← HW.out]
    refine (implCertLike n n' p q p' q' a1 a2 b1 b2 c1 c2 d1 d2 xs ys zs us v k v' k' W (H1.out.below BW.out) (H2.out.below BW.out) (H3.out.below BW.out) (H4.out.below BW.out) n1 n2 n3 n4).mono ?_
    rintro e w1 ⟨rfl, b1'⟩
    have B1 : Hid (Below w.heap.size w w1) := BW.out.trans (b1'.mono BW.out.size)
    clear b1'
    generalize likeE n n' (p, q) (p', q') xs ys zs us v k v' k' = r at F ⊢
    go_wp2_with fail
    go_ret
    exact ⟨ret_bool F.out.symm, B1.out⟩

set_option maxRecDepth 100000 in
set_option maxHeartbeats 1000000 in
theorem implCast (m : Int) (n : Bool) (p q : Int) (a1 a2 : Option Addr) (c1 c2 : Nat) (xs ys : List P2) (v k : Int) (w : World) :
    Calls Tryz.prog 79 #[.agg #[.int .i64 m, .bool n, .int .i64 p, .int .i64 q, .slice a1 xs.length c1, .slice a2 ys.length c2, .int .i64 v, .int .i64 k]] w fun e w' => e = .returned (.bool (isBal m)) ∧ Below w.heap.size w w' := by
  obtain ⟨W, hW⟩ : ∃ W, W = w.alloc (.cells #[.int .i64 m, .bool n, .int .i64 p, .int .i64 q, .slice a1 xs.length c1, .slice a2 ys.length c2, .int .i64 v, .int .i64 k] 56) := ⟨_, rfl⟩
  have BW : Hid (Below w.heap.size w W) := by show Below _ _ _; rw [hW]; exact (Below.refl _ _).alloc (Nat.le_refl _) _
  have HW : Hid (W = _) := hW
  clear hW
  go_enter Tryz.func79, Tryz.ntmps79
  go_wp2_with fail
  rw [← HW.out]
  refine (implIsBallot m W).mono ?_
  rintro e w1 ⟨rfl, rfl⟩
  go_wp2_with fail
  go_ret
  exact ⟨rfl, BW.out⟩

set_option maxRecDepth 100000 in
set_option maxHeartbeats 2000000 in
theorem implBars (l m : Int) (n : Bool) (p q : Int) (a1 a2 : Option Addr) (c1 c2 : Nat) (xs ys : List P2) (v k : Int) (w : World) (h1 : Sl w a1 xs) (h2 : Sl w a2 ys) (n1 : xs.length ≤ 2 ^ 40) (n2 : ys.length ≤ 2 ^ 40) :
    Calls Tryz.prog 73 #[.int .i64 l, .agg #[.int .i64 m, .bool n, .int .i64 p, .int .i64 q, .slice a1 xs.length c1, .slice a2 ys.length c2, .int .i64 v, .int .i64 k]] w fun e w' => e = .returned (.bool (barsV l (m, ⟨n, p, q, xs, ys, v, k⟩))) ∧ Below w.heap.size w w' := by
  have H1 : Hid (Sl w a1 xs) := h1
  have H2 : Hid (Sl w a2 ys) := h2
  clear h1 h2
  have E : Hid (barsV l (m, ⟨n, p, q, xs, ys, v, k⟩) = if sameV (m, ⟨n, p, q, xs, ys, v, k⟩) (0, ⟨false, 0, 0, [], [], 0, 0⟩) then false else !isBal m || decide (m > l) || !entOk n p q xs ys v k) := rfl
  generalize barsV l (m, ⟨n, p, q, xs, ys, v, k⟩) = T at E ⊢
  obtain ⟨W, hW⟩ : ∃ W, W = w.alloc (.cells #[.int .i64 m, .bool n, .int .i64 p, .int .i64 q, .slice a1 xs.length c1, .slice a2 ys.length c2, .int .i64 v, .int .i64 k] 56) := ⟨_, rfl⟩
  have BW : Hid (Below w.heap.size w W) := by show Below _ _ _; rw [hW]; exact (Below.refl _ _).alloc (Nat.le_refl _) _
  have G0 : Hid (Blk W w.heap.size #[.int .i64 m, .bool n, .int .i64 p, .int .i64 q, .slice a1 xs.length c1, .slice a2 ys.length c2, .int .i64 v, .int .i64 k] 56) := by show Blk _ _ _ _; rw [hW]; exact Blk.new _ _ _
  have HW : Hid (W = _) := hW
  clear hW
  go_enter Tryz.func73, Tryz.ntmps73
  go_wp2_with fail
  rw [← HW.out]
  refine (implSameVote m 0 n false p q 0 0 a1 a2 none none c1 c2 0 0 xs ys [] [] v k 0 0 W (H1.out.below BW.out) (H2.out.below BW.out) (.inl rfl) (.inl rfl) n1 n2 (by simp) (by simp)).mono ?_
  rintro e w1 ⟨rfl, b1'⟩
  have B1 : Hid (Below w.heap.size w w1) := BW.out.trans (b1'.mono BW.out.size)
  have G1 : Hid (Blk w1 w.heap.size #[.int .i64 m, .bool n, .int .i64 p, .int .i64 q, .slice a1 xs.length c1, .slice a2 ys.length c2, .int .i64 v, .int .i64 k] 56) := G0.out.keep b1'
  obtain ⟨q0, q1, q2, q3, q4, q5, q6, q7⟩ := G1.out.cells8
  clear b1'
  generalize sameV (m, ⟨n, p, q, xs, ys, v, k⟩) (0, ⟨false, 0, 0, [], [], 0, 0⟩) = s at E ⊢
  cases s with
  | true =>
    have F : Hid (T = false) := by show _ = _; rw [E.out]; rfl
    clear E
    go_wp2_with fail
    go_ret
    exact ⟨ret_bool F.out.symm, B1.out⟩
  | false =>
    have E2 : Hid (T = (!isBal m || decide (m > l) || !entOk n p q xs ys v k)) := by show _ = _; rw [E.out]; rfl
    clear E
    go_wp2_with fail
    refine (implCast m n p q a1 a2 c1 c2 xs ys v k w1).mono ?_
    rintro e w2 ⟨rfl, b2⟩
    have B2 : Hid (Below w.heap.size w w2) := B1.out.trans (b2.mono B1.out.size)
    obtain ⟨p0, p1, p2, p3, p4, p5, p6, p7⟩ := (G1.out.keep b2).cells8
    clear b2 q0 q1 q2 q3 q4 q5 q6 q7
    generalize isBal m = r at E2 ⊢
    cases r with
    | false =>
      have F : Hid (T = true) := by show _ = _; rw [E2.out]; rfl
      clear E2
      go_wp2_with fail
      go_ret
      exact ⟨ret_bool F.out.symm, B2.out⟩
    | true =>
      by_cases hl : m > l
      · have F : Hid (T = true) := by show _ = _; rw [E2.out]; simp [hl]
        clear E2
        go_wp2_with fail
        go_ret
        exact ⟨ret_bool F.out.symm, B2.out⟩
      · have F : Hid (T = (decide (l < m) || !entOk n p q xs ys v k)) := by show _ = _; rw [E2.out]; simp
        clear E2
        go_wp2_with fail
        refine (implCertEntry n p q a1 a2 c1 c2 xs ys v k w2 (H1.out.below B2.out) (H2.out.below B2.out) n1 n2).mono ?_
        rintro e w3 ⟨rfl, b3⟩
        have B3 : Hid (Below w.heap.size w w3) := B2.out.trans (b3.mono B2.out.size)
        clear b3
        generalize entOk n p q xs ys v k = r3 at F ⊢
        go_wp2_with fail
        go_ret
        exact ⟨ret_bool F.out.symm, B3.out⟩
end Go.Proofs.YtildonpdmmliaaaGreatDoor.Own

namespace Go.Proofs.YtildonpdmmliaaaGreatDoor.Own
open Go.RowKit
set_option linter.unusedVariables false
set_option linter.unusedSimpArgs false

set_option maxRecDepth 100000 in
set_option maxHeartbeats 2000000 in
theorem indexBars (l : Int) (a : Option Addr) (c : Nat) (vs : List VM) (w : World) (h : SlV w a vs) (hn : vs.length ≤ 2 ^ 40) (hl : VLs vs) :
    Calls Tryz.prog 77 #[.slice a vs.length c, .func (.func 73) #[.int .i64 l] #[]] w fun e w' => (∃ z : Int, e = .returned (.int .i64 z) ∧ decide (0 ≤ z) = (bodies vs).any (barsV l)) ∧ Below w.heap.size w w' := by
  have HS : Hid (SlV w a vs) := h
  have HL : Hid (VLs vs) := hl
  clear h hl
  have E2 : Hid (∀ i, i < vs.length → barsV l (vs.getD i v0).body = true → (bodies vs).any (barsV l) = true) := fun i hi h => anyV_hit (0, e0) (i := i) (by rw [bodies_len]; exact hi) (by rw [bodies_getD]; exact h)
  have E3 : Hid ((∀ i, i < vs.length → barsV l (vs.getD i v0).body = false) → (bodies vs).any (barsV l) = false) := fun h2 => anyV_at (0, e0) (fun i hi => by rw [bodies_getD]; exact h2 i (by rw [bodies_len] at hi; exact hi))
  generalize (bodies vs).any (barsV l) = T at E2 E3 ⊢
  go_enter Tryz.func77, Tryz.ntmps77
  go_wp2_with fail
  go_loopw [8] (fun i wr => ∃ k : Nat, k ≤ vs.length ∧ i = .int .i64 k ∧ Hid (∀ j, j < k → barsV l (vs.getD j v0).body = false) ∧ Hid (Below w.heap.size w wr)) (fun i _ => vs.length - (intOf i).toNat)
  case atStart => exact ⟨0, Nat.zero_le _, rfl, fun j hj => by omega, Below.refl _ _⟩
  case round =>
    obtain ⟨k, hk, rfl, HA, KB⟩ := hrel
    by_cases hlt : k < vs.length
    · have hki : (k : Int) < (vs.length : Int) := by omega
      rcases HS.out.below KB.out with hh | ⟨b, off, rfl, _, hh⟩
      · rw [hh] at hlt; simp at hlt
      obtain ⟨⟨d0, d1, d2, d3, d4, d5, d6, d7⟩, s1, s2⟩ := hh k hlt
      have NX : Hid (∀ y, barsV l (vs.getD k v0).body = y → (y = true → T = true) ∧ (y = false → ∀ j, j < k + 1 → barsV l (vs.getD j v0).body = false)) := fun y hy => ⟨fun h => E2.out k hlt (by rw [hy, h]), fun h j hj => by
        by_cases e : j = k
        · subst e; rw [hy, h]
        · exact HA.out j (by omega)⟩
      have LX := HL.out k hlt
      have SX : Hid (Sl wr (vs.getD k v0).a1 (vs.getD k v0).b.xs ∧ Sl wr (vs.getD k v0).a2 (vs.getD k v0).b.ys) := ⟨s1, s2⟩
      clear hh s1 s2
      obtain ⟨x, hx⟩ : ∃ x, x = vs.getD k v0 := ⟨_, rfl⟩
      rw [← hx] at d0 d1 d2 d3 d4 d5 d6 d7 LX SX
      have NX2 : Hid (∀ y, barsV l x.body = y → (y = true → T = true) ∧ (y = false → ∀ j, j < k + 1 → barsV l (vs.getD j v0).body = false)) := fun y hy => NX.out y (by rw [← hx]; exact hy)
      clear NX hx
      obtain ⟨xbal, ⟨xn, xp, xq, xxs, xys, xv, xk⟩, xa1, xc1, xa2, xc2⟩ := x
      simp only [VM.body] at d0 d1 d2 d3 d4 d5 d6 d7 LX SX NX2
      go_wp2_with fail
      refine (implBars l xbal xn xp xq xa1 xa2 xc1 xc2 xxs xys xv xk wr SX.out.1 SX.out.2 LX.1 LX.2.1).mono ?_
      rintro e w1 ⟨rfl, hw⟩
      have B1 : Hid (Below w.heap.size w w1) := KB.out.trans (hw.mono KB.out.size)
      have N3 := NX2.out _ rfl
      clear hw NX2 d0 d1 d2 d3 d4 d5 d6 d7
      generalize barsV l (xbal, ⟨xn, xp, xq, xxs, xys, xv, xk⟩) = y at N3 ⊢
      cases y with
      | true =>
        have F : Hid (T = true) := N3.1 rfl
        clear N3
        go_wp2_with fail
        go_ret
        exact ⟨⟨(k : Int), rfl, by rw [F.out]; simp⟩, B1.out⟩
      | false =>
        have F : Hid (∀ j, j < k + 1 → barsV l (vs.getD j v0).body = false) := N3.2 rfl
        clear N3
        go_wp2_with fail
        go_roundw
        case rel => exact ⟨k + 1, by omega, by go_num, F.out, B1.out⟩
        case measure => simp [intOf]; omega
    · have hki : ¬ (k : Int) < (vs.length : Int) := by omega
      have F : Hid (T = false) := E3.out (fun i hi => HA.out i (by omega))
      go_wp2_with fail
      go_ret
      exact ⟨⟨-1, rfl, by rw [F.out]; decide⟩, KB.out⟩

set_option maxRecDepth 100000 in
set_option maxHeartbeats 1000000 in
theorem containsBars (l : Int) (a : Option Addr) (c : Nat) (vs : List VM) (w : World) (h : SlV w a vs) (hn : vs.length ≤ 2 ^ 40) (hl : VLs vs) :
    Calls Tryz.prog 72 #[.slice a vs.length c, .func (.func 73) #[.int .i64 l] #[]] w fun e w' => e = .returned (.bool ((bodies vs).any (barsV l))) ∧ Below w.heap.size w w' := by
  have HC : Hid _ := indexBars l a c vs w h hn hl
  clear h hl
  generalize (bodies vs).any (barsV l) = T at HC ⊢
  go_enter Tryz.func72, Tryz.ntmps72
  go_wp2_with fail
  refine Calls.mono HC.out ?_
  rintro e w1 ⟨⟨z, rfl, hz⟩, b1⟩
  have B1 : Hid (Below w.heap.size w w1) := b1
  have HZ : Hid (decide (0 ≤ z) = T) := hz
  clear b1 hz
  go_wp2_with fail
  go_ret
  exact ⟨ret_bool HZ.out, B1.out⟩

set_option maxRecDepth 100000 in
set_option maxHeartbeats 1000000 in
theorem implVotesOk (l : Int) (a : Option Addr) (c : Nat) (vs : List VM) (w : World) (h : SlV w a vs) (hn : vs.length ≤ 2 ^ 40) (hl : VLs vs) :
    Calls Tryz.prog 66 #[.slice a vs.length c, .int .i64 l] w fun e w' => e = .returned (.bool (votesUpto l (bodies vs))) ∧ Below w.heap.size w w' := by
  have E : Hid (votesUpto l (bodies vs) = (decide (vs.length ≤ 40) && !(bodies vs).any (barsV l))) := by show _ = _; unfold votesUpto; rw [bodies_len]
  have HC : Hid _ := containsBars l a c vs w h hn hl
  clear h hl
  generalize votesUpto l (bodies vs) = T at E ⊢
  generalize (bodies vs).any (barsV l) = U at E HC
  by_cases h40 : vs.length ≤ 40
  · have F : Hid (T = !U) := by show _ = _; rw [E.out]; simp [h40]
    have hd : decide ((vs.length : Int) ≤ 40) = true := decide_eq_true (by omega)
    have hmf : ∀ (fn : Fn) (first cap : Array Value) (w : World), (Instr.makeFunc fn first cap).run Tryz.prog w = .ok (.func fn first cap) w := fun _ _ _ _ => rfl
    clear E h40
    go_enter Tryz.func66, Tryz.ntmps66
    go_wp2_with fail
    refine Calls.mono HC.out ?_
    rintro e w1 ⟨rfl, b1⟩
    have B1 : Hid (Below w.heap.size w w1) := b1
    clear b1
    go_wp2_with fail
    go_ret
    exact ⟨ret_bool F.out.symm, B1.out⟩
  · have F : Hid (T = false) := by show _ = _; rw [E.out]; simp [h40]
    have hd : decide ((vs.length : Int) ≤ 40) = false := decide_eq_false (by omega)
    clear E h40
    go_enter Tryz.func66, Tryz.ntmps66
    go_wp2_with fail
    go_ret
    exact ⟨ret_bool F.out.symm, Below.refl _ _⟩
end Go.Proofs.YtildonpdmmliaaaGreatDoor.Own

namespace Go.Proofs.YtildonpdmmliaaaGreatDoor.Own
open Go.RowKit
set_option linter.unusedVariables false
set_option linter.unusedSimpArgs false

set_option maxRecDepth 100000 in
set_option maxHeartbeats 1000000 in
theorem implIsNode (n : Int) (w : World) : Calls Tryz.prog 31 #[.int .i64 n] w fun e w' => e = .returned (.bool (nodeId n)) ∧ Below w.heap.size w w' := by
  have E : Hid (nodeId n = (decide (0 ≤ n) && decide (n < 3))) := rfl
  generalize nodeId n = T at E ⊢
  cases h1 : decide (0 ≤ n) with
  | false =>
    have X : Hid (T = false) := by show _ = _; rw [E.out, h1]; rfl
    clear E
    go_enter Tryz.func31, Tryz.ntmps31
    go_wp2_with fail
    go_ret
    exact ⟨ret_bool X.out.symm, Below.refl _ _⟩
  | true =>
    have X : Hid (T = decide (n < 3)) := by show _ = _; rw [E.out, h1]; rfl
    clear E
    go_enter Tryz.func31, Tryz.ntmps31
    go_wp2_with fail
    go_ret
    exact ⟨ret_bool X.out.symm, Below.refl _ _⟩

set_option maxRecDepth 100000 in
set_option maxHeartbeats 1000000 in
theorem implSpan (a b n : Int) (w : World) : Calls Tryz.prog 51 #[.agg #[.int .i64 a, .int .i64 b], .int .i64 n] w fun e w' => e = .returned (.bool (inSpan a b n)) ∧ Below w.heap.size w w' := by
  have E : Hid (inSpan a b n = (decide (a ≤ n) && decide (n ≤ b))) := rfl
  generalize inSpan a b n = T at E ⊢
  cases h1 : decide (a ≤ n) with
  | false =>
    have X : Hid (T = false) := by show _ = _; rw [E.out, h1]; rfl
    clear E
    go_enter Tryz.func51, Tryz.ntmps51
    go_wp2_with fail
    go_ret
    exact ⟨ret_bool X.out.symm, (Below.refl _ _).alloc (Nat.le_refl _) _⟩
  | true =>
    have X : Hid (T = decide (n ≤ b)) := by show _ = _; rw [E.out, h1]; rfl
    clear E
    go_enter Tryz.func51, Tryz.ntmps51
    go_wp2_with fail
    go_ret
    exact ⟨ret_bool X.out.symm, (Below.refl _ _).alloc (Nat.le_refl _) _⟩

set_option maxRecDepth 100000 in
set_option maxHeartbeats 1000000 in
theorem implIsRequest (n : Bool) (p q : Int) (a1 a2 : Option Addr) (c1 c2 : Nat) (xs ys : List P2) (v k : Int) (w : World) (h1 : Sl w a1 xs) (h2 : Sl w a2 ys) (n1 : xs.length ≤ 2 ^ 40) (n2 : ys.length ≤ 2 ^ 40) :
    Calls Tryz.prog 50 #[.agg #[.bool n, .int .i64 p, .int .i64 q, .slice a1 xs.length c1, .slice a2 ys.length c2, .int .i64 v, .int .i64 k]] w fun e w' => e = .returned (.bool (rightE ⟨n, p, q, xs, ys, v, k⟩ && !n)) ∧ Below w.heap.size w w' := by
  obtain ⟨W, hW⟩ : ∃ W, W = w.alloc (.cells #[.bool n, .int .i64 p, .int .i64 q, .slice a1 xs.length c1, .slice a2 ys.length c2, .int .i64 v, .int .i64 k] 41) := ⟨_, rfl⟩
  have BW : Hid (Below w.heap.size w W) := by show Below _ _ _; rw [hW]; exact (Below.refl _ _).alloc (Nat.le_refl _) _
  have G0 : Hid (Blk W w.heap.size #[.bool n, .int .i64 p, .int .i64 q, .slice a1 xs.length c1, .slice a2 ys.length c2, .int .i64 v, .int .i64 k] 41) := by show Blk _ _ _ _; rw [hW]; exact Blk.new _ _ _
  have HW : Hid (W = _) := hW
  clear hW
  have HC : Hid _ := implCertEntry n p q a1 a2 c1 c2 xs ys v k W (h1.below BW.out) (h2.below BW.out) n1 n2
  have E : Hid (rightE ⟨n, p, q, xs, ys, v, k⟩ = entOk n p q xs ys v k) := rfl
  rw [E.out]
  clear h1 h2
  generalize entOk n p q xs ys v k = r at HC ⊢
  go_enter Tryz.func50, Tryz.ntmps50
  go_wp2_with fail
  rw [← HW.out]
  refine Calls.mono HC.out ?_
  rintro e w1 ⟨rfl, b1⟩
  have B1 : Hid (Below w.heap.size w w1) := BW.out.trans (b1.mono BW.out.size)
  obtain ⟨q0, q1, q2, q3, q4, q5, q6⟩ := (G0.out.keep b1).cells7
  clear b1
  cases r with
  | false =>
    go_wp2_with fail
    go_ret
    exact ⟨rfl, B1.out⟩
  | true =>
    go_wp2_with fail
    go_ret
    exact ⟨ret_bool (by simp), B1.out⟩

/-- Which entries messages of a kind have. -/
def entFn (kind : Int) : Value := if kind = 3 ∨ kind = 5 then .func (.func 49) #[] #[] else if kind = 7 then .func (.func 50) #[] #[] else .nilFunc
def entBy (kind : Int) (b : EB) : Bool := if kind = 3 ∨ kind = 5 then rightE b else if kind = 7 then rightE b && !b.n else noneE b

set_option maxRecDepth 100000 in
set_option maxHeartbeats 2000000 in
theorem implHoldsEntry (kind : Int) (s l1 l2 l3 l4 vt : Value) (b : EB) (a1 a2 : Option Addr) (c1 c2 : Nat) (w : World) (h1 : Sl w a1 b.xs) (h2 : Sl w a2 b.ys) (n1 : b.xs.length ≤ 2 ^ 40) (n2 : b.ys.length ≤ 2 ^ 40) :
    Calls Tryz.prog 52 #[.agg #[s, l1, l2, l3, l4, entFn kind, vt], .agg #[.bool b.n, .int .i64 b.p, .int .i64 b.q, .slice a1 b.xs.length c1, .slice a2 b.ys.length c2, .int .i64 b.v, .int .i64 b.k]] w fun e w' => e = .returned (.bool (entBy kind b)) ∧ Below w.heap.size w w' := by
  obtain ⟨bn, bp, bq, bxs, bys, bv, bk⟩ := b
  simp only at h1 h2 n1 n2 ⊢
  have H1 : Hid (Sl w a1 bxs) := h1
  have H2 : Hid (Sl w a2 bys) := h2
  clear h1 h2
  by_cases k3 : kind = 3 ∨ kind = 5
  · have hnil : ∀ w : World, (binOp .eql 77 (.func (.func 49) #[] #[]) .nilFunc).run Tryz.prog w = .ok (.bool false) w := fun w => by kernel_rfl
    have e1 : entFn kind = .func (.func 49) #[] #[] := by simp only [entFn, k3, if_true]
    have e2 : entBy kind ⟨bn, bp, bq, bxs, bys, bv, bk⟩ = rightE ⟨bn, bp, bq, bxs, bys, bv, bk⟩ := by simp only [entBy, k3, if_true]
    rw [e1, e2]
    have E : Hid (rightE ⟨bn, bp, bq, bxs, bys, bv, bk⟩ = entOk bn bp bq bxs bys bv bk) := rfl
    rw [E.out]
    clear e1 e2 E k3
    obtain ⟨W, hW⟩ : ∃ W, W = (w.alloc (.cells #[s, l1, l2, l3, l4, .func (.func 49) #[] #[], vt] 90)).alloc (.cells #[.bool bn, .int .i64 bp, .int .i64 bq, .slice a1 bxs.length c1, .slice a2 bys.length c2, .int .i64 bv, .int .i64 bk] 41) := ⟨_, rfl⟩
    have BW : Hid (Below w.heap.size w W) := by
      show Below _ _ _
      rw [hW]; exact ((Below.refl _ _).alloc (Nat.le_refl _) _).alloc (by simp) _
    have HW : Hid (W = _) := hW
    clear hW
    go_enter Tryz.func52, Tryz.ntmps52
    go_wp2_with fail
    rw [← HW.out]
    refine (implCertEntry bn bp bq a1 a2 c1 c2 bxs bys bv bk W (H1.out.below BW.out) (H2.out.below BW.out) n1 n2).mono ?_
    rintro e w1 ⟨rfl, b1⟩
    have B1 : Hid (Below w.heap.size w w1) := BW.out.trans (b1.mono BW.out.size)
    clear b1
    generalize hr : entOk bn bp bq bxs bys bv bk = r
    have HR : Hid (_ = r) := hr
    clear hr
    go_wp2_with fail
    go_ret
    exact ⟨ret_bool HR.out.symm, B1.out⟩
  · by_cases k7 : kind = 7
    · have hnil : ∀ w : World, (binOp .eql 77 (.func (.func 50) #[] #[]) .nilFunc).run Tryz.prog w = .ok (.bool false) w := fun w => by kernel_rfl
      have e1 : entFn kind = .func (.func 50) #[] #[] := by rw [k7]; rfl
      have e2 : entBy kind ⟨bn, bp, bq, bxs, bys, bv, bk⟩ = (rightE ⟨bn, bp, bq, bxs, bys, bv, bk⟩ && !bn) := by rw [k7]; rfl
      rw [e1, e2]
      clear e1 e2 k3 k7
      obtain ⟨W, hW⟩ : ∃ W, W = (w.alloc (.cells #[s, l1, l2, l3, l4, .func (.func 50) #[] #[], vt] 90)).alloc (.cells #[.bool bn, .int .i64 bp, .int .i64 bq, .slice a1 bxs.length c1, .slice a2 bys.length c2, .int .i64 bv, .int .i64 bk] 41) := ⟨_, rfl⟩
      have BW : Hid (Below w.heap.size w W) := by
        show Below _ _ _
        rw [hW]; exact ((Below.refl _ _).alloc (Nat.le_refl _) _).alloc (by simp) _
      have HW : Hid (W = _) := hW
      clear hW
      go_enter Tryz.func52, Tryz.ntmps52
      go_wp2_with fail
      rw [← HW.out]
      refine (implIsRequest bn bp bq a1 a2 c1 c2 bxs bys bv bk W (H1.out.below BW.out) (H2.out.below BW.out) n1 n2).mono ?_
      rintro e w1 ⟨rfl, b1⟩
      have B1 : Hid (Below w.heap.size w w1) := BW.out.trans (b1.mono BW.out.size)
      clear b1
      generalize hr : (rightE ⟨bn, bp, bq, bxs, bys, bv, bk⟩ && !bn) = r
      have HR : Hid (_ = r) := hr
      clear hr
      go_wp2_with fail
      go_ret
      exact ⟨ret_bool HR.out.symm, B1.out⟩
    · have hnil : ∀ w : World, (binOp .eql 77 .nilFunc .nilFunc).run Tryz.prog w = .ok (.bool true) w := fun w => by kernel_rfl
      have e1 : entFn kind = .nilFunc := by simp only [entFn, k3, k7, if_false]
      have e2 : entBy kind ⟨bn, bp, bq, bxs, bys, bv, bk⟩ = noneE ⟨bn, bp, bq, bxs, bys, bv, bk⟩ := by simp only [entBy, k3, k7, if_false]
      rw [e1, e2]
      have E : Hid (noneE ⟨bn, bp, bq, bxs, bys, bv, bk⟩ = likeE bn false (bp, bq) (0, 0) bxs bys [] [] bv bk 0 0) := rfl
      rw [E.out]
      clear e1 e2 k3 k7 E
      obtain ⟨W, hW⟩ : ∃ W, W = (w.alloc (.cells #[s, l1, l2, l3, l4, .nilFunc, vt] 90)).alloc (.cells #[.bool bn, .int .i64 bp, .int .i64 bq, .slice a1 bxs.length c1, .slice a2 bys.length c2, .int .i64 bv, .int .i64 bk] 41) := ⟨_, rfl⟩
      have BW : Hid (Below w.heap.size w W) := by
        show Below _ _ _
        rw [hW]; exact ((Below.refl _ _).alloc (Nat.le_refl _) _).alloc (by simp) _
      have HW : Hid (W = _) := hW
      clear hW
      go_enter Tryz.func52, Tryz.ntmps52
      go_wp2_with fail
      rw [← HW.out]
      refine (implCertLike bn false bp bq 0 0 a1 a2 none none c1 c2 0 0 bxs bys [] [] bv bk 0 0 W (H1.out.below BW.out) (H2.out.below BW.out) (.inl rfl) (.inl rfl) n1 n2 (by simp) (by simp)).mono ?_
      rintro e w1 ⟨rfl, b1⟩
      have B1 : Hid (Below w.heap.size w w1) := BW.out.trans (b1.mono BW.out.size)
      clear b1
      generalize hr : likeE bn false (bp, bq) (0, 0) bxs bys [] [] bv bk 0 0 = r
      have HR : Hid (_ = r) := hr
      clear hr
      go_wp2_with fail
      go_ret
      exact ⟨ret_bool HR.out.symm, B1.out⟩

set_option maxRecDepth 100000 in
set_option maxHeartbeats 2000000 in
theorem implHoldsVotes (vt : Bool) (s l1 l2 l3 l4 fn : Value) (slot : Int) (a : Option Addr) (c : Nat) (vs : List VM) (w : World) (h : SlV w a vs) (hn : vs.length ≤ 2 ^ 40) (hl : VLs vs) (hs : 0 ≤ slot ∧ slot ≤ 40) :
    Calls Tryz.prog 53 #[.agg #[s, l1, l2, l3, l4, fn, .bool vt], .int .i64 slot, .slice a vs.length c] w fun e w' => e = .returned (.bool (if vt then votesOk (bodies vs) && decide (slot + vs.length ≤ 40) else decide (vs.length = 0))) ∧ Below w.heap.size w w' := by
  obtain ⟨W, hW⟩ : ∃ W, W = w.alloc (.cells #[s, l1, l2, l3, l4, fn, .bool vt] 90) := ⟨_, rfl⟩
  have BW : Hid (Below w.heap.size w W) := by show Below _ _ _; rw [hW]; exact (Below.refl _ _).alloc (Nat.le_refl _) _
  have HW : Hid (W = _) := hW
  clear hW
  have HC := implVotesOk 3000 a c vs W (h.below BW.out) hn hl
  rw [votesUpto_top] at HC
  have HC2 : Hid (Calls _ _ _ _ _) := HC
  clear HC h hl
  generalize votesOk (bodies vs) = vo at HC2 ⊢
  obtain ⟨hs1, hs2⟩ := hs
  cases vt with
  | false =>
    have X : Hid (((vs.length : Int) == 0) = decide (vs.length = 0)) := by
      show _ = _
      by_cases h : vs.length = 0
      · simp [h]
      · have : ((vs.length : Int) == 0) = false := beq_eq_false_iff_ne.2 (by omega)
        rw [this]; simp [h]
    go_enter Tryz.func53, Tryz.ntmps53
    go_wp2_with fail
    go_ret
    exact ⟨ret_bool (by rw [X.out]; simp), by rw [← HW.out]; exact BW.out⟩
  | true =>
    have hw1 : IntKind.i64.wrap (slot + (vs.length : Int)) = slot + (vs.length : Int) := by rw [IntKind.wrap_i64]; omega
    go_enter Tryz.func53, Tryz.ntmps53
    go_wp2_with fail
    rw [← HW.out]
    refine Calls.mono HC2.out ?_
    rintro e w1 ⟨rfl, b1⟩
    have B1 : Hid (Below w.heap.size w w1) := BW.out.trans (b1.mono BW.out.size)
    clear b1
    cases vo with
    | false =>
      go_wp2_with fail
      go_ret
      exact ⟨rfl, B1.out⟩
    | true =>
      go_wp2_with fail
      go_ret
      exact ⟨ret_bool (by simp), B1.out⟩
end Go.Proofs.YtildonpdmmliaaaGreatDoor.Own

namespace Go.Proofs.YtildonpdmmliaaaGreatDoor.Own
open Go.RowKit Go.Sort
set_option linter.unusedVariables false
set_option linter.unusedSimpArgs false

def wordOf (kind : Int) : ByteArray := if kind = 1 then ⟨#[112, 114, 101, 112, 97, 114, 101]⟩ else if kind = 2 then ⟨#[112, 114, 111, 109, 105, 115, 101]⟩ else if kind = 3 then ⟨#[97, 99, 99, 101, 112, 116]⟩ else if kind = 4 then ⟨#[97, 99, 99, 101, 112, 116, 101, 100]⟩ else if kind = 5 then ⟨#[99, 104, 111, 115, 101, 110]⟩ else if kind = 6 then ⟨#[114, 101, 102, 117, 115, 101]⟩ else if kind = 7 then ⟨#[97, 115, 107]⟩ else if kind = 8 then ⟨#[110, 101, 101, 100]⟩ else ⟨#[]⟩
def isKind (kind : Int) : Bool := decide (1 ≤ kind) && decide (kind ≤ 8)
/-- The bounds of the ballot: two numbers. -/
def balOf (kind : Int) : Int × Int := if kind = 1 ∨ kind = 2 ∨ kind = 3 ∨ kind = 4 ∨ kind = 6 then (1, 3000) else (0, 0)
def slotOf (kind : Int) : Int × Int := if kind = 1 ∨ kind = 2 ∨ kind = 4 ∨ kind = 8 then (0, 40) else if kind = 3 ∨ kind = 5 then (0, 39) else (0, 0)
def votesOf (kind : Int) : Bool := decide (kind = 2)
def formV (kind : Int) : Value := .agg #[.string (wordOf kind), .int .i64 (balOf kind).1, .int .i64 (balOf kind).2, .int .i64 (slotOf kind).1, .int .i64 (slotOf kind).2, entFn kind, .bool (votesOf kind)]
theorem kind_cases (kind : Int) : kind = 1 ∨ kind = 2 ∨ kind = 3 ∨ kind = 4 ∨ kind = 5 ∨ kind = 6 ∨ kind = 7 ∨ kind = 8 ∨ (kind ≠ 1 ∧ kind ≠ 2 ∧ kind ≠ 3 ∧ kind ≠ 4 ∧ kind ≠ 5 ∧ kind ≠ 6 ∧ kind ≠ 7 ∧ kind ≠ 8) := by omega
theorem isKind_not {kind : Int} (h : kind ≠ 1 ∧ kind ≠ 2 ∧ kind ≠ 3 ∧ kind ≠ 4 ∧ kind ≠ 5 ∧ kind ≠ 6 ∧ kind ≠ 7 ∧ kind ≠ 8) : isKind kind = false := by
  unfold isKind
  by_cases h1 : 1 ≤ kind
  · have : ¬ kind ≤ 8 := by omega
    simp [this]
  · simp [h1]
/-- What is asked of a message, part by part. -/
theorem formOk_parts (kind bal slot : Int) (b : EB) (bs : List V) : formOk kind bal slot b bs = (isKind kind && inSpan (balOf kind).1 (balOf kind).2 bal && inSpan (slotOf kind).1 (slotOf kind).2 slot && entBy kind b && (if votesOf kind then votesOk bs && decide (slot + bs.length ≤ 40) else decide (bs.length = 0))) := by
  rcases kind_cases kind with rfl | rfl | rfl | rfl | rfl | rfl | rfl | rfl | h
  case inr.inr.inr.inr.inr.inr.inr.inr =>
    obtain ⟨g1, g2, g3, g4, g5, g6, g7, g8⟩ := h
    rw [isKind_not ⟨g1, g2, g3, g4, g5, g6, g7, g8⟩]
    simp [formOk, g1, g2, g3, g4, g5, g6, g7, g8]
  all_goals simp [formOk, isKind, balOf, slotOf, entBy, votesOf, isBal_span]
theorem word_list (kind : Int) : ((wordOf kind).toList = []) ↔ isKind kind = false := by
  rw [ByteArray.toList_eq]
  rcases kind_cases kind with rfl | rfl | rfl | rfl | rfl | rfl | rfl | rfl | h
  case inr.inr.inr.inr.inr.inr.inr.inr =>
    rw [isKind_not h]
    obtain ⟨g1, g2, g3, g4, g5, g6, g7, g8⟩ := h
    have : wordOf kind = ⟨#[]⟩ := by simp [wordOf, g1, g2, g3, g4, g5, g6, g7, g8]
    rw [this]
    simp
  all_goals simp [wordOf, isKind]

set_option maxRecDepth 100000 in
set_option maxHeartbeats 4000000 in
theorem implForm (kind : Int) (w : World) : Calls Tryz.prog 32 #[.int .i64 kind] w fun e w' => e = .returned (formV kind) ∧ Below w.heap.size w w' := by
  have B4 : ∀ o1 o2 o3 o4, Hid (Below w.heap.size w ((((w.alloc o1).alloc o2).alloc o3).alloc o4)) := fun o1 o2 o3 o4 => (((((Below.refl _ _).alloc (Nat.le_refl _) _).alloc (by simp) _).alloc (by simp; omega) _).alloc (by simp; omega) _)
  rcases kind_cases kind with rfl | rfl | rfl | rfl | rfl | rfl | rfl | rfl | h
  case inr.inr.inr.inr.inr.inr.inr.inr =>
    obtain ⟨g1, g2, g3, g4, g5, g6, g7, g8⟩ := h
    have k1 : (kind == 1) = false := by simpa using g1
    have k2 : (kind == 2) = false := by simpa using g2
    have k3 : (kind == 3) = false := by simpa using g3
    have k4 : (kind == 4) = false := by simpa using g4
    have k5 : (kind == 5) = false := by simpa using g5
    have k6 : (kind == 6) = false := by simpa using g6
    have k7 : (kind == 7) = false := by simpa using g7
    have k8 : (kind == 8) = false := by simpa using g8
    have E : Hid (formV kind = .agg #[.string ⟨#[]⟩, .int .i64 0, .int .i64 0, .int .i64 0, .int .i64 0, .nilFunc, .bool false]) := by show _ = _; simp [formV, wordOf, balOf, slotOf, entFn, votesOf, g1, g2, g3, g4, g5, g6, g7, g8]
    rw [E.out]
    clear E g1 g2 g3 g4 g5 g6 g7 g8
    go_enter Tryz.func32, Tryz.ntmps32
    go_wp2
    refine bodyPost_ret (v := .agg #[.string ⟨#[]⟩, .int .i64 0, .int .i64 0, .int .i64 0, .int .i64 0, .nilFunc, .bool false]) (by simp [results, Tryz.results32, go_sem]) rfl ⟨rfl, ?_⟩
    exact (B4 _ _ _ _).out
  · go_enter Tryz.func32, Tryz.ntmps32
    go_wp2
    refine bodyPost_ret (v := formV 1) (by simp [results, Tryz.results32, go_sem, formV, wordOf, balOf, slotOf, entFn, votesOf]) rfl ⟨rfl, (B4 _ _ _ _).out⟩
  · go_enter Tryz.func32, Tryz.ntmps32
    go_wp2
    refine bodyPost_ret (v := formV 2) (by simp [results, Tryz.results32, go_sem, formV, wordOf, balOf, slotOf, entFn, votesOf]) rfl ⟨rfl, (B4 _ _ _ _).out⟩
  · go_enter Tryz.func32, Tryz.ntmps32
    go_wp2
    refine bodyPost_ret (v := formV 3) (by simp [results, Tryz.results32, go_sem, formV, wordOf, balOf, slotOf, entFn, votesOf]) rfl ⟨rfl, (B4 _ _ _ _).out⟩
  · go_enter Tryz.func32, Tryz.ntmps32
    go_wp2
    refine bodyPost_ret (v := formV 4) (by simp [results, Tryz.results32, go_sem, formV, wordOf, balOf, slotOf, entFn, votesOf]) rfl ⟨rfl, (B4 _ _ _ _).out⟩
  · go_enter Tryz.func32, Tryz.ntmps32
    go_wp2
    refine bodyPost_ret (v := formV 5) (by simp [results, Tryz.results32, go_sem, formV, wordOf, balOf, slotOf, entFn, votesOf]) rfl ⟨rfl, (B4 _ _ _ _).out⟩
  · go_enter Tryz.func32, Tryz.ntmps32
    go_wp2
    refine bodyPost_ret (v := formV 6) (by simp [results, Tryz.results32, go_sem, formV, wordOf, balOf, slotOf, entFn, votesOf]) rfl ⟨rfl, (B4 _ _ _ _).out⟩
  · go_enter Tryz.func32, Tryz.ntmps32
    go_wp2
    refine bodyPost_ret (v := formV 7) (by simp [results, Tryz.results32, go_sem, formV, wordOf, balOf, slotOf, entFn, votesOf]) rfl ⟨rfl, (B4 _ _ _ _).out⟩
  · go_enter Tryz.func32, Tryz.ntmps32
    go_wp2
    refine bodyPost_ret (v := formV 8) (by simp [results, Tryz.results32, go_sem, formV, wordOf, balOf, slotOf, entFn, votesOf]) rfl ⟨rfl, (B4 _ _ _ _).out⟩

theorem slot_in {kind slot : Int} (h : inSpan (slotOf kind).1 (slotOf kind).2 slot = true) : 0 ≤ slot ∧ slot ≤ 40 := by
  unfold slotOf at h
  split at h
  · simpa [inSpan] using h
  · split at h
    · have : 0 ≤ slot ∧ slot ≤ 39 := by simpa [inSpan] using h
      omega
    · have : 0 ≤ slot ∧ slot ≤ 0 := by simpa [inSpan] using h
      omega

set_option maxRecDepth 100000 in
set_option maxHeartbeats 4000000 in
theorem implHolds (kd : Int) (x : MM) (w : World) (h : AtM w x) (f : FitM x) :
    Calls Tryz.prog 33 #[.agg #[.string (wordOf kd), .int .i64 (balOf kd).1, .int .i64 (balOf kd).2, .int .i64 (slotOf kd).1, .int .i64 (slotOf kd).2, entFn kd, .bool (votesOf kd)], .agg #[.int .i64 x.kind, .int .i64 x.src, .int .i64 x.dst, .int .i64 x.bal, .int .i64 x.slot, .bool x.b.n, .int .i64 x.b.p, .int .i64 x.b.q, .slice x.a1 x.b.xs.length x.c1, .slice x.a2 x.b.ys.length x.c2, .int .i64 x.b.v, .int .i64 x.b.k, .slice x.a x.vs.length x.c]] w fun e w' => e = .returned (.bool (formOk kd x.bal x.slot x.b (bodies x.vs))) ∧ Below w.heap.size w w' := by
  have H : Hid (AtM w x) := h
  have F : Hid (FitM x) := f
  clear h f
  have E : Hid (formOk kd x.bal x.slot x.b (bodies x.vs) = (isKind kd && inSpan (balOf kd).1 (balOf kd).2 x.bal && inSpan (slotOf kd).1 (slotOf kd).2 x.slot && entBy kd x.b && (if votesOf kd then votesOk (bodies x.vs) && decide (x.slot + x.vs.length ≤ 40) else decide (x.vs.length = 0)))) := by
    show _ = _
    rw [formOk_parts, bodies_len]
  generalize formOk kd x.bal x.slot x.b (bodies x.vs) = T at E ⊢
  obtain ⟨W, hW⟩ : ∃ W, W = (w.alloc (.cells #[.string (wordOf kd), .int .i64 (balOf kd).1, .int .i64 (balOf kd).2, .int .i64 (slotOf kd).1, .int .i64 (slotOf kd).2, entFn kd, .bool (votesOf kd)] 90)).alloc (.cells #[.int .i64 x.kind, .int .i64 x.src, .int .i64 x.dst, .int .i64 x.bal, .int .i64 x.slot, .bool x.b.n, .int .i64 x.b.p, .int .i64 x.b.q, .slice x.a1 x.b.xs.length x.c1, .slice x.a2 x.b.ys.length x.c2, .int .i64 x.b.v, .int .i64 x.b.k, .slice x.a x.vs.length x.c] 44) := ⟨_, rfl⟩
  have BW : Hid (Below w.heap.size w W) := by
    show Below _ _ _
    rw [hW]; exact ((Below.refl _ _).alloc (Nat.le_refl _) _).alloc (by simp) _
  have G0 : Hid (Blk W w.heap.size #[.string (wordOf kd), .int .i64 (balOf kd).1, .int .i64 (balOf kd).2, .int .i64 (slotOf kd).1, .int .i64 (slotOf kd).2, entFn kd, .bool (votesOf kd)] 90) := by show Blk _ _ _ _; rw [hW]; exact (Blk.new _ _ _).alloc _
  have G1 : Hid (Blk W (w.heap.size + 1) #[.int .i64 x.kind, .int .i64 x.src, .int .i64 x.dst, .int .i64 x.bal, .int .i64 x.slot, .bool x.b.n, .int .i64 x.b.p, .int .i64 x.b.q, .slice x.a1 x.b.xs.length x.c1, .slice x.a2 x.b.ys.length x.c2, .int .i64 x.b.v, .int .i64 x.b.k, .slice x.a x.vs.length x.c] 44) := by show Blk _ _ _ _; rw [hW]; exact Blk.new2 _ _ _ _
  have HW : Hid (W = _) := hW
  clear hW
  have CE : Hid (∀ w', Below w.heap.size w w' → Calls Tryz.prog 52 #[.agg #[.string (wordOf kd), .int .i64 (balOf kd).1, .int .i64 (balOf kd).2, .int .i64 (slotOf kd).1, .int .i64 (slotOf kd).2, entFn kd, .bool (votesOf kd)], .agg #[.bool x.b.n, .int .i64 x.b.p, .int .i64 x.b.q, .slice x.a1 x.b.xs.length x.c1, .slice x.a2 x.b.ys.length x.c2, .int .i64 x.b.v, .int .i64 x.b.k]] w' fun e w'' => e = .returned (.bool (entBy kd x.b)) ∧ Below w'.heap.size w' w'') := fun w' hb => implHoldsEntry kd _ _ _ _ _ _ x.b x.a1 x.a2 x.c1 x.c2 w' (H.out.1.below hb) (H.out.2.1.below hb) F.out.1 F.out.2.1
  have CV : Hid (0 ≤ x.slot ∧ x.slot ≤ 40 → ∀ w', Below w.heap.size w w' → Calls Tryz.prog 53 #[.agg #[.string (wordOf kd), .int .i64 (balOf kd).1, .int .i64 (balOf kd).2, .int .i64 (slotOf kd).1, .int .i64 (slotOf kd).2, entFn kd, .bool (votesOf kd)], .int .i64 x.slot, .slice x.a x.vs.length x.c] w' fun e w'' => e = .returned (.bool (if votesOf kd then votesOk (bodies x.vs) && decide (x.slot + x.vs.length ≤ 40) else decide (x.vs.length = 0))) ∧ Below w'.heap.size w' w'') := fun hs w' hb => implHoldsVotes (votesOf kd) _ _ _ _ _ _ x.slot x.a x.c x.vs w' (H.out.2.2.below hb) F.out.2.2.2.2.1 F.out.2.2.2.2.2 hs
  have SI : Hid (inSpan (slotOf kd).1 (slotOf kd).2 x.slot = true → 0 ≤ x.slot ∧ x.slot ≤ 40) := slot_in
  have hwn := word_list kd
  generalize (if votesOf kd then votesOk (bodies x.vs) && decide (x.slot + x.vs.length ≤ 40) else decide (x.vs.length = 0)) = vb at E CV
  generalize entBy kd x.b = eb at E CE
  cases hk : isKind kd with
  | false =>
    have X : Hid (T = false) := by show _ = _; rw [E.out, hk]; rfl
    rw [hk] at hwn
    simp only [iff_true, iff_false, Bool.true_eq_false, reduceCtorEq] at hwn
    clear E CE CV hk
    go_enter Tryz.func33, Tryz.ntmps33
    go_wp2_with fail
    go_ret
    exact ⟨ret_bool X.out.symm, by rw [← HW.out]; exact BW.out⟩
  | true =>
    have E1 : Hid (T = (inSpan (balOf kd).1 (balOf kd).2 x.bal && inSpan (slotOf kd).1 (slotOf kd).2 x.slot && eb && vb)) := by show _ = _; rw [E.out, hk]; simp only [Bool.true_and]
    rw [hk] at hwn
    simp only [iff_true, iff_false, Bool.true_eq_false, reduceCtorEq] at hwn
    clear E hk
    go_enter Tryz.func33, Tryz.ntmps33
    go_wp2_with fail
    rw [← HW.out]
    refine (implSpan _ _ x.bal W).mono ?_
    rintro e w1 ⟨rfl, b1⟩
    have B1 : Hid (Below w.heap.size w w1) := BW.out.trans (b1.mono BW.out.size)
    have W1 : Hid (Below W.heap.size W w1) := b1
    clear b1
    obtain ⟨q0, q1, q2, q3, q4, q5, q6⟩ := (G0.out.keep W1.out).cells7
    obtain ⟨r0, r1, r2, r3, r4, r5, r6, r7, r8, r9, r10, r11, r12⟩ := (G1.out.keep W1.out).cells13
    generalize inSpan (balOf kd).1 (balOf kd).2 x.bal = s1 at E1 ⊢
    cases s1 with
    | false =>
      have X : Hid (T = false) := by show _ = _; rw [E1.out]; rfl
      go_wp2_with fail
      go_ret
      exact ⟨ret_bool X.out.symm, B1.out⟩
    | true =>
      go_wp2_with fail
      refine (implSpan _ _ x.slot w1).mono ?_
      rintro e w2 ⟨rfl, b2⟩
      have B2 : Hid (Below w.heap.size w w2) := B1.out.trans (b2.mono B1.out.size)
      have W2 : Hid (Below W.heap.size W w2) := W1.out.trans (b2.mono W1.out.size)
      clear b2 q0 q1 q2 q3 q4 q5 q6 r0 r1 r2 r3 r4 r5 r6 r7 r8 r9 r10 r11 r12
      obtain ⟨q0, q1, q2, q3, q4, q5, q6⟩ := (G0.out.keep W2.out).cells7
      obtain ⟨r0, r1, r2, r3, r4, r5, r6, r7, r8, r9, r10, r11, r12⟩ := (G1.out.keep W2.out).cells13
      generalize inSpan (slotOf kd).1 (slotOf kd).2 x.slot = s2 at E1 SI ⊢
      cases s2 with
      | false =>
        have X : Hid (T = false) := by show _ = _; rw [E1.out]; rfl
        go_wp2_with fail
        go_ret
        exact ⟨ret_bool X.out.symm, B2.out⟩
      | true =>
        have SS : Hid (0 ≤ x.slot ∧ x.slot ≤ 40) := SI.out rfl
        clear SI
        go_wp2_with fail
        refine (CE.out w2 B2.out).mono ?_
        rintro e w3 ⟨rfl, b3⟩
        have B3 : Hid (Below w.heap.size w w3) := B2.out.trans (b3.mono B2.out.size)
        have W3 : Hid (Below W.heap.size W w3) := W2.out.trans (b3.mono W2.out.size)
        clear b3 q0 q1 q2 q3 q4 q5 q6 r0 r1 r2 r3 r4 r5 r6 r7 r8 r9 r10 r11 r12
        obtain ⟨q0, q1, q2, q3, q4, q5, q6⟩ := (G0.out.keep W3.out).cells7
        obtain ⟨r0, r1, r2, r3, r4, r5, r6, r7, r8, r9, r10, r11, r12⟩ := (G1.out.keep W3.out).cells13
        cases eb with
        | false =>
          have X : Hid (T = false) := by show _ = _; rw [E1.out]; rfl
          go_wp2_with fail
          go_ret
          exact ⟨ret_bool X.out.symm, B3.out⟩
        | true =>
          have X : Hid (T = vb) := by show _ = _; rw [E1.out]; rfl
          have ie : Hid ((wordOf kd).toList.isEmpty = false) := by show _ = _; simpa using hwn
          go_wp2_with fail
          refine (CV.out SS.out w3 B3.out).mono ?_
          rintro e w4 ⟨rfl, b4⟩
          have B4 : Hid (Below w.heap.size w w4) := B3.out.trans (b4.mono B3.out.size)
          clear b4 q0 q1 q2 q3 q4 q5 q6 r0 r1 r2 r3 r4 r5 r6 r7 r8 r9 r10 r11 r12
          go_wp2_with fail
          go_ret
          exact ⟨ret_bool (by rw [X.out, ie.out]; rfl), B4.out⟩

set_option maxRecDepth 100000 in
set_option maxHeartbeats 4000000 in
theorem implMsgOk (x : MM) (w : World) (h : AtM w x) (f : FitM x) :
    Calls Tryz.prog 17 #[.agg #[.int .i64 x.kind, .int .i64 x.src, .int .i64 x.dst, .int .i64 x.bal, .int .i64 x.slot, .bool x.b.n, .int .i64 x.b.p, .int .i64 x.b.q, .slice x.a1 x.b.xs.length x.c1, .slice x.a2 x.b.ys.length x.c2, .int .i64 x.b.v, .int .i64 x.b.k, .slice x.a x.vs.length x.c]] w fun e w' => e = .returned (.bool (msgOk x)) ∧ Below w.heap.size w w' := by
  have H : Hid (AtM w x) := h
  have F : Hid (FitM x) := f
  clear h f
  have E : Hid (msgOk x = (nodeId x.src && nodeId x.dst && x.src != x.dst && formOk x.kind x.bal x.slot x.b (bodies x.vs))) := rfl
  generalize msgOk x = T at E ⊢
  obtain ⟨W, hW⟩ : ∃ W, W = w.alloc (.cells #[.int .i64 x.kind, .int .i64 x.src, .int .i64 x.dst, .int .i64 x.bal, .int .i64 x.slot, .bool x.b.n, .int .i64 x.b.p, .int .i64 x.b.q, .slice x.a1 x.b.xs.length x.c1, .slice x.a2 x.b.ys.length x.c2, .int .i64 x.b.v, .int .i64 x.b.k, .slice x.a x.vs.length x.c] 44) := ⟨_, rfl⟩
  have BW : Hid (Below w.heap.size w W) := by show Below _ _ _; rw [hW]; exact (Below.refl _ _).alloc (Nat.le_refl _) _
  have G0 : Hid (Blk W w.heap.size #[.int .i64 x.kind, .int .i64 x.src, .int .i64 x.dst, .int .i64 x.bal, .int .i64 x.slot, .bool x.b.n, .int .i64 x.b.p, .int .i64 x.b.q, .slice x.a1 x.b.xs.length x.c1, .slice x.a2 x.b.ys.length x.c2, .int .i64 x.b.v, .int .i64 x.b.k, .slice x.a x.vs.length x.c] 44) := by show Blk _ _ _ _; rw [hW]; exact Blk.new _ _ _
  have HW : Hid (W = _) := hW
  clear hW
  have Q1 : Hid (∀ d os, Calls Tryz.prog 31 #[.int .i64 x.src] (grow (redrawn W d) os) fun e w'' => e = .returned (.bool (nodeId x.src)) ∧ ∃ p : Regrown, w'' = grow (redrawn W p.d) p.os) := fun d os => Calls.regrown_of (implIsNode x.src _)
  have Q2 : Hid (∀ d os, Calls Tryz.prog 31 #[.int .i64 x.dst] (grow (redrawn W d) os) fun e w'' => e = .returned (.bool (nodeId x.dst)) ∧ ∃ p : Regrown, w'' = grow (redrawn W p.d) p.os) := fun d os => Calls.regrown_of (implIsNode x.dst _)
  have Q3 : Hid (∀ d os, Calls Tryz.prog 32 #[.int .i64 x.kind] (grow (redrawn W d) os) fun e w'' => e = .returned (.agg #[.string (wordOf x.kind), .int .i64 (balOf x.kind).1, .int .i64 (balOf x.kind).2, .int .i64 (slotOf x.kind).1, .int .i64 (slotOf x.kind).2, entFn x.kind, .bool (votesOf x.kind)]) ∧ ∃ p : Regrown, w'' = grow (redrawn W p.d) p.os) := fun d os => Calls.regrown_of (implForm x.kind _)
  have Q4 : Hid (∀ d os, Calls Tryz.prog 33 #[.agg #[.string (wordOf x.kind), .int .i64 (balOf x.kind).1, .int .i64 (balOf x.kind).2, .int .i64 (slotOf x.kind).1, .int .i64 (slotOf x.kind).2, entFn x.kind, .bool (votesOf x.kind)], .agg #[.int .i64 x.kind, .int .i64 x.src, .int .i64 x.dst, .int .i64 x.bal, .int .i64 x.slot, .bool x.b.n, .int .i64 x.b.p, .int .i64 x.b.q, .slice x.a1 x.b.xs.length x.c1, .slice x.a2 x.b.ys.length x.c2, .int .i64 x.b.v, .int .i64 x.b.k, .slice x.a x.vs.length x.c]] (grow (redrawn W d) os) fun e w'' => e = .returned (.bool (formOk x.kind x.bal x.slot x.b (bodies x.vs))) ∧ ∃ p : Regrown, w'' = grow (redrawn W p.d) p.os) := fun d os => Calls.regrown_of (implHolds x.kind x _ ((H.out.below BW.out).below (below_regrown W d os)) F.out)
  obtain ⟨d0, d1, d2, d3, d4, d5, d6, d7, d8, d9, d10, d11, d12⟩ := G0.out.cells13
  have m0 := cell_regrown d0
  have m1 := cell_regrown d1
  have m2 := cell_regrown d2
  have m3 := cell_regrown d3
  have m4 := cell_regrown d4
  have m5 := cell_regrown d5
  have m6 := cell_regrown d6
  have m7 := cell_regrown d7
  have m8 := cell_regrown d8
  have m9 := cell_regrown d9
  have m10 := cell_regrown d10
  have m11 := cell_regrown d11
  have m12 := cell_regrown d12
  clear d0 d1 d2 d3 d4 d5 d6 d7 d8 d9 d10 d11 d12
  generalize formOk x.kind x.bal x.slot x.b (bodies x.vs) = fo at E Q4
  generalize nodeId x.src = n1 at E Q1
  generalize nodeId x.dst = n2 at E Q2
  cases n1 with
  | false =>
    have X : Hid (T = false) := by show _ = _; rw [E.out]; rfl
    clear E
    go_enter Tryz.func17, Tryz.ntmps17
    go_upto_region 1 with fail
    rw [← HW.out]
    refine wp_region_quiet_below (by kernel_rfl) (by kernel_rfl) ?_
    repeat (go_big_quiet_step (first | (go_at_call_of 31 (Value.int IntKind.i64 x.src); exact Q1.out _ _) | (go_at_call_of 31 (Value.int IntKind.i64 x.dst); exact Q2.out _ _) | (go_at_call 32; exact Q3.out _ _) | (go_at_call 33; exact Q4.out _ _)))
    refine wpQuiet_nil ?_
    intro Y hw'
    obtain ⟨⟨dq, osq⟩, hw''⟩ := hw'
    have hx : Below W.heap.size W Y := by rw [hw'']; exact below_regrown W dq osq
    have KY : Hid (Below w.heap.size w Y) := BW.out.trans (hx.mono BW.out.size)
    clear hx hw'' m0 m1 m2 m3 m4 m5 m6 m7 m8 m9 m10 m11 m12
    go_wp2_with fail
    go_ret
    exact ⟨ret_bool X.out.symm, KY.out⟩
  | true =>
    cases n2 with
    | false =>
      have X : Hid (T = false) := by show _ = _; rw [E.out]; rfl
      clear E
      go_enter Tryz.func17, Tryz.ntmps17
      go_upto_region 1 with fail
      rw [← HW.out]
      refine wp_region_quiet_below (by kernel_rfl) (by kernel_rfl) ?_
      repeat (go_big_quiet_step (first | (go_at_call_of 31 (Value.int IntKind.i64 x.src); exact Q1.out _ _) | (go_at_call_of 31 (Value.int IntKind.i64 x.dst); exact Q2.out _ _) | (go_at_call 32; exact Q3.out _ _) | (go_at_call 33; exact Q4.out _ _)))
      refine wpQuiet_nil ?_
      intro Y hw'
      obtain ⟨⟨dq, osq⟩, hw''⟩ := hw'
      have hx : Below W.heap.size W Y := by rw [hw'']; exact below_regrown W dq osq
      have KY : Hid (Below w.heap.size w Y) := BW.out.trans (hx.mono BW.out.size)
      clear hx hw'' m0 m1 m2 m3 m4 m5 m6 m7 m8 m9 m10 m11 m12
      go_wp2_with fail
      go_ret
      exact ⟨ret_bool X.out.symm, KY.out⟩
    | true =>
      cases hne : (x.src != x.dst) with
      | false =>
        have X : Hid (T = false) := by show _ = _; rw [E.out, hne]; rfl
        clear E
        go_enter Tryz.func17, Tryz.ntmps17
        go_upto_region 1 with fail
        rw [← HW.out]
        refine wp_region_quiet_below (by kernel_rfl) (by kernel_rfl) ?_
        repeat (go_big_quiet_step (first | (go_at_call_of 31 (Value.int IntKind.i64 x.src); exact Q1.out _ _) | (go_at_call_of 31 (Value.int IntKind.i64 x.dst); exact Q2.out _ _) | (go_at_call 32; exact Q3.out _ _) | (go_at_call 33; exact Q4.out _ _)))
        refine wpQuiet_nil ?_
        intro Y hw'
        obtain ⟨⟨dq, osq⟩, hw''⟩ := hw'
        have hx : Below W.heap.size W Y := by rw [hw'']; exact below_regrown W dq osq
        have KY : Hid (Below w.heap.size w Y) := BW.out.trans (hx.mono BW.out.size)
        clear hx hw'' m0 m1 m2 m3 m4 m5 m6 m7 m8 m9 m10 m11 m12
        go_wp2_with fail
        go_ret
        exact ⟨ret_bool X.out.symm, KY.out⟩
      | true =>
        have X : Hid (T = fo) := by show _ = _; rw [E.out, hne]; rfl
        clear E
        go_enter Tryz.func17, Tryz.ntmps17
        go_upto_region 1 with fail
        rw [← HW.out]
        refine wp_region_quiet_below (by kernel_rfl) (by kernel_rfl) ?_
        repeat (go_big_quiet_step (first | (go_at_call_of 31 (Value.int IntKind.i64 x.src); exact Q1.out _ _) | (go_at_call_of 31 (Value.int IntKind.i64 x.dst); exact Q2.out _ _) | (go_at_call 32; exact Q3.out _ _) | (go_at_call 33; exact Q4.out _ _)))
        refine wpQuiet_nil ?_
        intro Y hw'
        obtain ⟨⟨dq, osq⟩, hw''⟩ := hw'
        have hx : Below W.heap.size W Y := by rw [hw'']; exact below_regrown W dq osq
        have KY : Hid (Below w.heap.size w Y) := BW.out.trans (hx.mono BW.out.size)
        clear hx hw'' m0 m1 m2 m3 m4 m5 m6 m7 m8 m9 m10 m11 m12
        go_wp2_with fail
        go_ret
        exact ⟨ret_bool X.out.symm, KY.out⟩
end Go.Proofs.YtildonpdmmliaaaGreatDoor.Own
