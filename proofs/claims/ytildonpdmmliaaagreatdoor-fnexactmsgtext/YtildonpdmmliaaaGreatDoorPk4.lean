/-
  Own texts, bundled: EqVote, VoteFit, MsgOps, MsgX, Pair2, EqualR, EntMath, EqualP, ExecSameI.
-/
import Derived.Test.YtildonpdmmliaaaGreatDoorPk3
import Derived.BigQuiet
import Derived.Lib.QuietBelow
import Derived.Deep.Cut
import Derived.Test.YtildonpdmmliaaaGreatDoorPk2
import Derived.ChangeKeysEq
import Derived.Deep.QuietTactic
namespace Go.Proofs.YtildonpdmmliaaaGreatDoor.Own
open Go.RowKit Go.Sort
set_option linter.unusedVariables false
set_option linter.unusedSimpArgs false

set_option maxRecDepth 100000 in
set_option maxHeartbeats 1000000 in
theorem eqVote (m : Int) (n : Bool) (p q : Int) (a1 a2 b1 b2 : Option Addr) (c1 c2 d1 d2 : Nat) (xs ys : List P2) (v k : Int) (w : World) (h1 : Sl w a1 xs) (h2 : Sl w a2 ys) (h3 : Sl w b1 xs) (h4 : Sl w b2 ys)
    (n1 : xs.length ≤ 2 ^ 40) (n2 : ys.length ≤ 2 ^ 40) :
    Calls Tryz.prog 40 #[.agg #[.int .i64 m, .bool n, .int .i64 p, .int .i64 q, .slice a1 xs.length c1, .slice a2 ys.length c2, .int .i64 v, .int .i64 k], .agg #[.int .i64 m, .bool n, .int .i64 p, .int .i64 q, .slice b1 xs.length d1, .slice b2 ys.length d2, .int .i64 v, .int .i64 k]] w fun e w' => e = .returned (.bool true) ∧ Below w.heap.size w w' := by
  have H1 : Hid (Sl w a1 xs) := h1
  have H2 : Hid (Sl w a2 ys) := h2
  have H3 : Hid (Sl w b1 xs) := h3
  have H4 : Hid (Sl w b2 ys) := h4
  clear h1 h2 h3 h4
  obtain ⟨W, hW⟩ : ∃ W, W = (w.alloc (.cells #[.int .i64 m, .bool n, .int .i64 p, .int .i64 q, .slice a1 xs.length c1, .slice a2 ys.length c2, .int .i64 v, .int .i64 k] 56)).alloc (.cells #[.int .i64 m, .bool n, .int .i64 p, .int .i64 q, .slice b1 xs.length d1, .slice b2 ys.length d2, .int .i64 v, .int .i64 k] 56) := ⟨_, rfl⟩
  have BW : Hid (Below w.heap.size w W) := by
    show Below _ _ _
    rw [hW]; exact ((Below.refl _ _).alloc (Nat.le_refl _) _).alloc (by simp) _
  have HW : Hid (W = _) := hW
  clear hW
  have en : (m != m) = false := by simp
  go_enter Tryz.func40, Tryz.ntmps40
  go_wp2_with fail
  rw [← HW.out]
  refine (eqEntry n p q a1 a2 b1 b2 c1 c2 d1 d2 xs ys v k W (H1.out.below BW.out) (H2.out.below BW.out) (H3.out.below BW.out) (H4.out.below BW.out) n1 n2).mono ?_
  rintro e w2 ⟨rfl, b2'⟩
  have B2 : Hid (Below w.heap.size w w2) := BW.out.trans (b2'.mono BW.out.size)
  clear b2'
  go_wp2_with fail
  go_ret
  exact ⟨rfl, B2.out⟩

set_option maxRecDepth 100000 in
set_option maxHeartbeats 4000000 in
theorem eqVoteS (a b : Option Addr) (c d : Nat) (vs us : List VM) (w : World) (h1 : SlV w a vs) (h2 : SlV w b us) (hb : bodies vs = bodies us) (hn : vs.length ≤ 2 ^ 40) (hl : ∀ i, i < vs.length → (vs.getD i v0).b.xs.length ≤ 2 ^ 40 ∧ (vs.getD i v0).b.ys.length ≤ 2 ^ 40) :
    Calls Tryz.prog 21 #[.slice a vs.length c, .slice b us.length d] w fun e w' => e = .returned (.bool true) ∧ Below w.heap.size w w' := by
  obtain ⟨hlen, hbod⟩ := bodies_eq hb
  have H1 : Hid (SlV w a vs) := h1
  have H2 : Hid (SlV w b us) := h2
  have HL : Hid (∀ i, i < vs.length → (vs.getD i v0).b.xs.length ≤ 2 ^ 40 ∧ (vs.getD i v0).b.ys.length ≤ 2 ^ 40) := hl
  have HB : Hid (∀ i, (vs.getD i v0).body = (us.getD i v0).body) := hbod
  rw [← hlen]
  have HE : Hid (vs.length = us.length) := hlen
  clear h1 h2 hl hb hbod hlen
  have hne : ((vs.length : Int) != (vs.length : Int)) = false := by simp
  go_enter Tryz.func21, Tryz.ntmps21
  go_wp2_with fail
  go_loopw [5] (fun i wr => ∃ k : Nat, k ≤ vs.length ∧ i = .int .i64 k ∧ Hid (Below w.heap.size w wr)) (fun i _ => vs.length - (intOf i).toNat)
  case atStart => exact ⟨0, Nat.zero_le _, rfl, Below.refl _ _⟩
  case round =>
    obtain ⟨k, hk, rfl, KR⟩ := hrel
    by_cases hlt : k < vs.length
    · have hki : (k : Int) < (vs.length : Int) := by omega
      have hlt2 : k < us.length := by rw [← HE.out]; exact hlt
      rcases H1.out.below KR.out with hh | ⟨b1, o1, rfl, _, hh⟩
      · rw [hh] at hlt; simp at hlt
      rcases H2.out.below KR.out with hg | ⟨b2, o2, rfl, _, hg⟩
      · rw [hg] at hlt2; simp at hlt2
      obtain ⟨⟨d0, d1, d2, d3, d4, d5, d6, d7⟩, s1, s2⟩ := hh k hlt
      obtain ⟨⟨f0, f1, f2, f3, f4, f5, f6, f7⟩, t1, t2⟩ := hg k hlt2
      have lx := HL.out k hlt
      have SX : Hid (Sl wr (vs.getD k v0).a1 (vs.getD k v0).b.xs ∧ Sl wr (vs.getD k v0).a2 (vs.getD k v0).b.ys) := ⟨s1, s2⟩
      have SY : Hid (Sl wr (us.getD k v0).a1 (us.getD k v0).b.xs ∧ Sl wr (us.getD k v0).a2 (us.getD k v0).b.ys) := ⟨t1, t2⟩
      obtain ⟨be, bb⟩ := body_eq (HB.out k)
      rw [← be] at f0
      rw [← bb] at f1 f2 f3 f4 f5 f6 f7 SY
      clear hh hg s1 s2 t1 t2 be bb
      generalize vs.getD k v0 = x at d0 d1 d2 d3 d4 d5 d6 d7 f0 f1 f2 f3 f4 f5 f6 f7 lx SX SY
      generalize us.getD k v0 = y at f0 f1 f2 f3 f4 f5 f6 f7 SY
      obtain ⟨xbal, ⟨xn, xp, xq, xxs, xys, xv, xk⟩, xa1, xc1, xa2, xc2⟩ := x
      obtain ⟨ybal, yb, ya1, yc1, ya2, yc2⟩ := y
      simp only at d0 d1 d2 d3 d4 d5 d6 d7 f0 f1 f2 f3 f4 f5 f6 f7 lx SX SY
      have EQ : Hid (∀ d os, Calls Tryz.prog 40 #[.agg #[.int .i64 xbal, .bool xn, .int .i64 xp, .int .i64 xq, .slice xa1 xxs.length xc1, .slice xa2 xys.length xc2, .int .i64 xv, .int .i64 xk], .agg #[.int .i64 xbal, .bool xn, .int .i64 xp, .int .i64 xq, .slice ya1 xxs.length yc1, .slice ya2 xys.length yc2, .int .i64 xv, .int .i64 xk]] (grow (redrawn wr d) os) fun e w'' => e = .returned (.bool true) ∧ ∃ p : Regrown, w'' = grow (redrawn wr p.d) p.os) := fun d os => by
        have hb := below_regrown wr d os
        have h := eqVote xbal xn xp xq xa1 xa2 ya1 ya2 xc1 xc2 yc1 yc2 xxs xys xv xk _ (SX.out.1.below hb) (SX.out.2.below hb) (SY.out.1.below hb) (SY.out.2.below hb) lx.1 lx.2
        exact Calls.regrown_of h
      have m0 := cell_regrown d0
      have m1 := cell_regrown d1
      have m2 := cell_regrown d2
      have m3 := cell_regrown d3
      have m4 := cell_regrown d4
      have m5 := cell_regrown d5
      have m6 := cell_regrown d6
      have m7 := cell_regrown d7
      have r0 := cell_regrown f0
      have r1 := cell_regrown f1
      have r2 := cell_regrown f2
      have r3 := cell_regrown f3
      have r4 := cell_regrown f4
      have r5 := cell_regrown f5
      have r6 := cell_regrown f6
      have r7 := cell_regrown f7
      clear d0 d1 d2 d3 d4 d5 d6 d7 f0 f1 f2 f3 f4 f5 f6 f7
      go_upto_region 6 with fail
      refine wp_region_quiet_below (by kernel_rfl) (by kernel_rfl) ?_
      repeat (go_big_quiet_step (first | (go_at_call 40; exact EQ.out _ _)))
      refine wpQuiet_nil ?_
      intro Y hw'
      obtain ⟨⟨dq, osq⟩, hw''⟩ := hw'
      have hx : Below wr.heap.size wr Y := by rw [hw'']; exact below_regrown wr dq osq
      have KY : Hid (Below w.heap.size w Y) := KR.out.trans (hx.mono KR.out.size)
      clear hx hw'' m0 m1 m2 m3 m4 m5 m6 m7 r0 r1 r2 r3 r4 r5 r6 r7
      go_wp2_with fail
      go_roundw
      case rel => exact ⟨k + 1, by omega, by go_num, KY.out⟩
      case measure => simp [intOf]; omega
    · have hki : ¬ (k : Int) < (vs.length : Int) := by omega
      go_wp2_with fail
      go_ret
      exact ⟨rfl, KR.out⟩
end Go.Proofs.YtildonpdmmliaaaGreatDoor.Own

namespace Go.Proofs.YtildonpdmmliaaaGreatDoor.Own
open Go.RowKit
set_option linter.unusedVariables false

/-- What came in is of a length that the walks take. -/
def VM0 (vs : List VM) : Prop := ∀ i, i < vs.length → (vs.getD i v0).b.xs.length ≤ maxLen ∧ (vs.getD i v0).b.ys.length ≤ maxLen
def VL0 (vs : List VM) : Prop := ∀ i, i < vs.length → (vs.getD i v0).b.xs.length ≤ 2 ^ 40 ∧ (vs.getD i v0).b.ys.length ≤ 2 ^ 40
theorem VL0.ofSum {vs : List VM} {n : Nat} (h : sumV vs vs.length ≤ n) (hn : n ≤ 2 ^ 40) : VL0 vs := fun i hi => by
  have := sumV_at vs hi
  exact ⟨by omega, by omega⟩
theorem VL0.vms {vs : List VM} (h : VL0 vs) (gs : List (Nat × Nat)) : VL0 (vmsOf gs (bodies vs)) := fun i hi => by
  rw [vmsOf_len] at hi
  rw [vmsOf_at gs _ hi, bodies_getD]
  rw [bodies_len] at hi
  exact h i hi

theorem CopyV.keep {w w' : World} {N b : Nat} {gs : List (Nat × Nat)} {bs : List V} (h : CopyV w b gs bs) (hk : KeepFrom N w w') (hN : N ≤ b) : CopyV w' b gs bs := by
  have hb : w'.heap[b]? = w.heap[b]? := hk.2 b hN
  have e := fun o => World.cell?_of_block (w := w) (w' := w') (a := ⟨b, o, none⟩) hb
  have O : ∀ i, i < bs.length → RunOwn w' (b + 1) (gs.getD i (0, 0)).1 (gs.getD i (0, 0)).2 (bs.getD i (0, e0)).2.xs (bs.getD i (0, e0)).2.ys := fun i hi => (h.own i hi).keep hk (by have := (h.own i hi).1; omega) (by have := (h.own i hi).2.1; omega)
  refine ⟨h.len, by rw [hk.1]; exact h.lt, fun i hi => ?_, O, h.asc⟩
  have c := (h.cell i hi).1
  refine ⟨?_, .inr ⟨_, _, rfl, (O i hi).2.2.2.1⟩, .inr ⟨_, _, rfl, (O i hi).2.2.2.2.1⟩⟩
  rw [e, e, e, e, e, e, e, e]; exact c

theorem vls_of {vs : List VM} (h : VL0 vs) (gs : List (Nat × Nat)) : VLs (vmsOf gs (bodies vs)) := CopyV.vls fun i hi => by rw [bodies_len] at hi; rw [bodies_getD]; exact h i hi
end Go.Proofs.YtildonpdmmliaaaGreatDoor.Own

namespace Go.Proofs.YtildonpdmmliaaaGreatDoor.Own
open Go.RowKit
set_option linter.unusedVariables false
set_option linter.unusedSimpArgs false

theorem Blk.cells13 {w : World} {b : Nat} {x0 x1 x2 x3 x4 x5 x6 x7 x8 x9 x10 x11 x12 : Value} {t : TypeId} (h : Blk w b #[x0, x1, x2, x3, x4, x5, x6, x7, x8, x9, x10, x11, x12] t) : w.cell? ⟨b, 0, none⟩ = some x0 ∧ w.cell? ⟨b, 1, none⟩ = some x1 ∧ w.cell? ⟨b, 2, none⟩ = some x2 ∧ w.cell? ⟨b, 3, none⟩ = some x3 ∧ w.cell? ⟨b, 4, none⟩ = some x4 ∧ w.cell? ⟨b, 5, none⟩ = some x5 ∧ w.cell? ⟨b, 6, none⟩ = some x6 ∧ w.cell? ⟨b, 7, none⟩ = some x7 ∧ w.cell? ⟨b, 8, none⟩ = some x8 ∧ w.cell? ⟨b, 9, none⟩ = some x9 ∧ w.cell? ⟨b, 10, none⟩ = some x10 ∧ w.cell? ⟨b, 11, none⟩ = some x11 ∧ w.cell? ⟨b, 12, none⟩ = some x12 :=
  ⟨by rw [h.cell]; rfl, by rw [h.cell]; rfl, by rw [h.cell]; rfl, by rw [h.cell]; rfl, by rw [h.cell]; rfl, by rw [h.cell]; rfl, by rw [h.cell]; rfl, by rw [h.cell]; rfl, by rw [h.cell]; rfl, by rw [h.cell]; rfl, by rw [h.cell]; rfl, by rw [h.cell]; rfl, by rw [h.cell]; rfl⟩

set_option maxRecDepth 100000 in
set_option maxHeartbeats 1000000 in
theorem szMsg (kd sr ds bl st : Int) (n : Bool) (p q : Int) (a1 a2 : Option Addr) (c1 c2 : Nat) (xs ys : List P2) (v k : Int) (a : Option Addr) (c : Nat) (vs : List VM) (left : Int) (w : World) (hx : xs.length ≤ maxLen) (hy : ys.length ≤ maxLen) (h : SlV w a vs) (hl : vs.length ≤ maxLen) (hm : VM0 vs) (h0 : 0 ≤ left) (h1 : left ≤ 2 ^ 60) :
    Calls Tryz.prog 4 #[.agg #[.int .i64 kd, .int .i64 sr, .int .i64 ds, .int .i64 bl, .int .i64 st, .bool n, .int .i64 p, .int .i64 q, .slice a1 xs.length c1, .slice a2 ys.length c2, .int .i64 v, .int .i64 k, .slice a vs.length c], .int .i64 left] w fun e w' => e = .returned (.int .i64 (if left < (xs.length + ys.length + (vs.length + sumV vs vs.length) : Nat) then -1 else left - (xs.length + ys.length + (vs.length + sumV vs vs.length) : Nat))) ∧ Below w.heap.size w w' := by
  obtain ⟨W, hW⟩ : ∃ W, W = w.alloc (.cells #[.int .i64 kd, .int .i64 sr, .int .i64 ds, .int .i64 bl, .int .i64 st, .bool n, .int .i64 p, .int .i64 q, .slice a1 xs.length c1, .slice a2 ys.length c2, .int .i64 v, .int .i64 k, .slice a vs.length c] 32) := ⟨_, rfl⟩
  have BW : Hid (Below w.heap.size w W) := by show Below _ _ _; rw [hW]; exact (Below.refl _ _).alloc (Nat.le_refl _) _
  have G0 : Hid (Blk W w.heap.size #[.int .i64 kd, .int .i64 sr, .int .i64 ds, .int .i64 bl, .int .i64 st, .bool n, .int .i64 p, .int .i64 q, .slice a1 xs.length c1, .slice a2 ys.length c2, .int .i64 v, .int .i64 k, .slice a vs.length c] 32) := by show Blk _ _ _ _; rw [hW]; exact Blk.new _ _ _
  have HW : Hid (W = _) := hW
  clear hW
  have HS : Hid (SlV W a vs) := h.below BW.out
  have HM : Hid (VM0 vs) := hm
  have C1 := szEntry n p q a1 a2 xs.length c1 ys.length c2 v k left W hx hy h0 h1
  have C2 : Hid (∀ w' z, Below W.heap.size W w' → 0 ≤ z → z ≤ 2 ^ 60 → Calls Tryz.prog 10 #[.slice a vs.length c, .int .i64 z] w' fun e w'' => e = .returned (.int .i64 (if z < (vs.length + sumV vs vs.length : Nat) then -1 else z - (vs.length + sumV vs vs.length : Nat))) ∧ Below w'.heap.size w' w'') := fun w' z hb hz hz2 => szVoteS a c vs z w' (HS.out.below hb) hl HM.out hz hz2
  clear h hm
  generalize (vs.length + sumV vs vs.length) = T at C2 ⊢
  by_cases hb : left - (xs.length : Int) - (ys.length : Int) < 0
  · rw [if_pos hb] at C1
    have HC : Hid (Calls _ _ _ _ _) := C1
    rw [if_pos (by omega)]
    clear C1 hb
    go_enter Tryz.func4, Tryz.ntmps4
    go_wp2_with fail
    rw [← HW.out]
    refine Calls.mono HC.out ?_
    rintro e w1 ⟨rfl, b1⟩
    have B1 : Hid (Below w.heap.size w w1) := BW.out.trans (b1.mono BW.out.size)
    clear b1
    go_wp2_with fail
    go_ret
    exact ⟨rfl, B1.out⟩
  · rw [if_neg hb] at C1
    have hz0 : 0 ≤ left - (xs.length : Int) - (ys.length : Int) := by omega
    have hz1 : left - (xs.length : Int) - (ys.length : Int) ≤ 2 ^ 60 := by omega
    have C3 : Hid (∀ w', Below W.heap.size W w' → Calls Tryz.prog 10 #[.slice a vs.length c, .int .i64 (left - (xs.length : Int) - (ys.length : Int))] w' fun e w'' => e = .returned (.int .i64 (if left < (xs.length + ys.length + T : Nat) then -1 else left - (xs.length + ys.length + T : Nat))) ∧ Below w'.heap.size w' w'') := fun w' hb => by
      have h := C2.out w' _ hb hz0 hz1
      have e : (if left - (xs.length : Int) - (ys.length : Int) < (T : Nat) then (-1 : Int) else left - (xs.length : Int) - (ys.length : Int) - (T : Nat)) = (if left < (xs.length + ys.length + T : Nat) then -1 else left - (xs.length + ys.length + T : Nat)) := by
        by_cases h1 : left < (xs.length + ys.length + T : Nat)
        · rw [if_pos h1, if_pos (by omega)]
        · rw [if_neg h1, if_neg (by omega)]; omega
      rw [e] at h
      exact h
    clear C2
    generalize left - (xs.length : Int) - (ys.length : Int) = z at C1 C3 hb hz0 hz1
    have HC : Hid (Calls _ _ _ _ _) := C1
    by_cases hlt : left < (xs.length + ys.length + T : Nat)
    · rw [if_pos hlt] at C3 ⊢
      clear C1 hlt
      go_enter Tryz.func4, Tryz.ntmps4
      go_wp2_with fail
      rw [← HW.out]
      refine Calls.mono HC.out ?_
      rintro e w1 ⟨rfl, b1⟩
      have B1 : Hid (Below W.heap.size W w1) := b1
      obtain ⟨q0, q1, q2, q3, q4, q5, q6, q7, q8, q9, q10, q11, q12⟩ := (G0.out.keep b1).cells13
      clear b1
      go_wp2_with fail
      refine (C3.out _ B1.out).mono ?_
      rintro e w2 ⟨rfl, b2⟩
      have B2 : Hid (Below w.heap.size w w2) := BW.out.trans ((B1.out.trans (b2.mono B1.out.size)).mono BW.out.size)
      clear b2
      go_wp2_with fail
      go_ret
      exact ⟨rfl, B2.out⟩
    · rw [if_neg hlt] at C3 ⊢
      have hp : ¬ left - ((xs.length + ys.length + T : Nat) : Int) < 0 := by omega
      generalize left - ((xs.length + ys.length + T : Nat) : Int) = u at C3 hp ⊢
      clear C1 hlt
      go_enter Tryz.func4, Tryz.ntmps4
      go_wp2_with fail
      rw [← HW.out]
      refine Calls.mono HC.out ?_
      rintro e w1 ⟨rfl, b1⟩
      have B1 : Hid (Below W.heap.size W w1) := b1
      obtain ⟨q0, q1, q2, q3, q4, q5, q6, q7, q8, q9, q10, q11, q12⟩ := (G0.out.keep b1).cells13
      clear b1
      go_wp2_with fail
      refine (C3.out _ B1.out).mono ?_
      rintro e w2 ⟨rfl, b2⟩
      have B2 : Hid (Below w.heap.size w w2) := BW.out.trans ((B1.out.trans (b2.mono B1.out.size)).mono BW.out.size)
      clear b2
      go_wp2_with fail
      go_ret
      exact ⟨rfl, B2.out⟩

set_option maxRecDepth 100000 in
set_option maxHeartbeats 2000000 in
theorem toMsg (kd sr ds bl st : Int) (n : Bool) (p q : Int) (a1 a2 : Option Addr) (c1 c2 : Nat) (xs ys : List P2) (v k : Int) (a : Option Addr) (c : Nat) (vs : List VM) (w : World) (h1 : Sl w a1 xs) (h2 : Sl w a2 ys) (hx : xs.length ≤ 2 ^ 40) (hy : ys.length ≤ 2 ^ 40) (h : SlV w a vs) (hn : vs.length ≤ 2 ^ 40) (hl : VL0 vs) :
    Calls Tryz.prog 6 #[.agg #[.int .i64 kd, .int .i64 sr, .int .i64 ds, .int .i64 bl, .int .i64 st, .bool n, .int .i64 p, .int .i64 q, .slice a1 xs.length c1, .slice a2 ys.length c2, .int .i64 v, .int .i64 k, .slice a vs.length c]] w fun e w' => ∃ g1 g2 g gs, e = .returned (.agg #[.int .i64 kd, .int .i64 sr, .int .i64 ds, .int .i64 bl, .int .i64 st, .bool n, .int .i64 p, .int .i64 q, .slice (some ⟨g1, 0, none⟩) xs.length xs.length, .slice (some ⟨g2, 0, none⟩) ys.length ys.length, .int .i64 v, .int .i64 k, .slice (some ⟨g, 0, none⟩) vs.length vs.length]) ∧ RunOwn w' w.heap.size g1 g2 xs ys ∧ g1 < g ∧ g2 < g ∧ CopyV w' g gs (bodies vs) ∧ RowV w' g vs.length ∧ Below w.heap.size w w' := by
  have H1 : Hid (Sl w a1 xs) := h1
  have H2 : Hid (Sl w a2 ys) := h2
  have H3 : Hid (SlV w a vs) := h
  have HL : Hid (VL0 vs) := hl
  clear h1 h2 h hl
  obtain ⟨W, hW⟩ : ∃ W, W = ((w.alloc (.cells #[.int .i64 kd, .int .i64 sr, .int .i64 ds, .int .i64 bl, .int .i64 st, .bool n, .int .i64 p, .int .i64 q, .slice a1 xs.length c1, .slice a2 ys.length c2, .int .i64 v, .int .i64 k, .slice a vs.length c] 32)).alloc (.cells #[.int .i64 0, .int .i64 0, .int .i64 0, .int .i64 0, .int .i64 0, .bool false, .int .i64 0, .int .i64 0, .slice none 0 0, .slice none 0 0, .int .i64 0, .int .i64 0, .slice none 0 0] 44)).alloc (.cells #[.int .i64 kd, .int .i64 sr, .int .i64 ds, .int .i64 bl, .int .i64 st, .bool false, .int .i64 0, .int .i64 0, .slice none 0 0, .slice none 0 0, .int .i64 0, .int .i64 0, .slice none 0 0] 44) := ⟨_, rfl⟩
  have BW : Hid (Below w.heap.size w W) := by
    show Below _ _ _
    rw [hW]; exact ((((Below.refl _ _).alloc (Nat.le_refl _) _).alloc (by simp) _).alloc (by simp; omega) _)
  have SW : Hid (W.heap.size = w.heap.size + 3) := by show _ = _; rw [hW]; simp
  have G0 : Hid (Blk W w.heap.size #[.int .i64 kd, .int .i64 sr, .int .i64 ds, .int .i64 bl, .int .i64 st, .bool n, .int .i64 p, .int .i64 q, .slice a1 xs.length c1, .slice a2 ys.length c2, .int .i64 v, .int .i64 k, .slice a vs.length c] 32) := by
    show Blk _ _ _ _; rw [hW]; exact ((Blk.new _ _ _).alloc _).alloc _
  have G1 : Hid (Blk W (w.heap.size + 1) #[.int .i64 0, .int .i64 0, .int .i64 0, .int .i64 0, .int .i64 0, .bool false, .int .i64 0, .int .i64 0, .slice none 0 0, .slice none 0 0, .int .i64 0, .int .i64 0, .slice none 0 0] 44) := by
    show Blk _ _ _ _; rw [hW]; exact (Blk.new2 _ _ _ _).alloc _
  have G2 : Hid (Blk W (w.heap.size + 1 + 1) #[.int .i64 kd, .int .i64 sr, .int .i64 ds, .int .i64 bl, .int .i64 st, .bool false, .int .i64 0, .int .i64 0, .slice none 0 0, .slice none 0 0, .int .i64 0, .int .i64 0, .slice none 0 0] 44) := by
    show Blk _ _ _ _; rw [hW]; exact Blk.new3 _ _ _ _ _
  have HW : Hid (W = _) := hW
  clear hW
  go_enter Tryz.func6, Tryz.ntmps6
  go_wp2_with fail
  rw [← HW.out]
  refine (toEntry n p q a1 a2 c1 c2 xs ys v k W (H1.out.below BW.out) (H2.out.below BW.out) hx hy).mono ?_
  rintro e w1 ⟨g1, g2, rfl, own, b1⟩
  have D0 : Hid (Blk w1 w.heap.size _ _) := G0.out.keep b1
  have D1 : Hid (Blk w1 (w.heap.size + 1) _ _) := G1.out.keep b1
  have D2 : Hid (Blk w1 (w.heap.size + 1 + 1) _ _) := G2.out.keep b1
  have B1 : Hid (Below w.heap.size w w1) := BW.out.trans (b1.mono BW.out.size)
  have S1 : Hid (w.heap.size + 3 ≤ w1.heap.size) := by have := SW.out; have := b1.size; show _ ≤ _; omega
  have O1 : Hid (RunOwn w1 (w.heap.size + 3) g1 g2 xs ys) := by have h := own; rw [SW.out] at h; exact h
  clear b1 own
  obtain ⟨q0, q1, q2, q3, q4, q5, q6, q7, q8, q9, q10, q11, q12⟩ := D0.out.cells13
  obtain ⟨r0, r1, r2, r3, r4, r5, r6, r7, r8, r9, r10, r11, r12⟩ := D2.out.cells13
  have ff := D2.out.frozen
  go_wp2_with fail
  obtain ⟨W2, hW2⟩ : ∃ W2, W2 = (((((((w1.setCell ⟨w.heap.size + 1 + 1, 5, none⟩ (.bool n)).setCell ⟨w.heap.size + 1 + 1, 6, none⟩ (.int .i64 p)).setCell ⟨w.heap.size + 1 + 1, 7, none⟩ (.int .i64 q)).setCell ⟨w.heap.size + 1 + 1, 8, none⟩ (.slice (some ⟨g1, 0, none⟩) xs.length xs.length)).setCell ⟨w.heap.size + 1 + 1, 9, none⟩ (.slice (some ⟨g2, 0, none⟩) ys.length ys.length)).setCell ⟨w.heap.size + 1 + 1, 10, none⟩ (.int .i64 v)).setCell ⟨w.heap.size + 1 + 1, 11, none⟩ (.int .i64 k)) := ⟨_, rfl⟩
  have E0 : Hid (Blk W2 w.heap.size #[.int .i64 kd, .int .i64 sr, .int .i64 ds, .int .i64 bl, .int .i64 st, .bool n, .int .i64 p, .int .i64 q, .slice a1 xs.length c1, .slice a2 ys.length c2, .int .i64 v, .int .i64 k, .slice a vs.length c] 32) := by show Blk _ _ _ _; rw [hW2]; exact (((((((D0.out.other (by omega) _ _).other (by omega) _ _).other (by omega) _ _).other (by omega) _ _).other (by omega) _ _).other (by omega) _ _).other (by omega) _ _)
  have E1 : Hid (Blk W2 (w.heap.size + 1) #[.int .i64 0, .int .i64 0, .int .i64 0, .int .i64 0, .int .i64 0, .bool false, .int .i64 0, .int .i64 0, .slice none 0 0, .slice none 0 0, .int .i64 0, .int .i64 0, .slice none 0 0] 44) := by show Blk _ _ _ _; rw [hW2]; exact (((((((D1.out.other (by omega) _ _).other (by omega) _ _).other (by omega) _ _).other (by omega) _ _).other (by omega) _ _).other (by omega) _ _).other (by omega) _ _)
  have E2 : Hid (Blk W2 (w.heap.size + 1 + 1) #[.int .i64 kd, .int .i64 sr, .int .i64 ds, .int .i64 bl, .int .i64 st, .bool n, .int .i64 p, .int .i64 q, .slice (some ⟨g1, 0, none⟩) xs.length xs.length, .slice (some ⟨g2, 0, none⟩) ys.length ys.length, .int .i64 v, .int .i64 k, .slice none 0 0] 44) := by show Blk _ _ _ _; rw [hW2]; exact (((((((D2.out.set _ _).set _ _).set _ _).set _ _).set _ _).set _ _).set _ _)
  have K2 : Hid (KeepFrom (w.heap.size + 3) w1 W2) := by
    show KeepFrom _ _ _
    rw [hW2]
    have S2 : ∀ {u : World} (o : Nat) (x : Value), KeepFrom (w.heap.size + 3) w1 u → KeepFrom (w.heap.size + 3) w1 (u.setCell ⟨w.heap.size + 1 + 1, o, none⟩ x) := fun o x h => h.setCell (by show w.heap.size + 1 + 1 < _; omega) x
    exact S2 _ _ (S2 _ _ (S2 _ _ (S2 _ _ (S2 _ _ (S2 _ _ (S2 _ _ (KeepFrom.refl _ _)))))))
  have B2 : Hid (Below w.heap.size w W2) := by
    show Below _ _ _
    rw [hW2]
    have s2 : w.heap.size ≤ w.heap.size + 1 + 1 := by omega
    exact ((((((B1.out.setCell s2 _).setCell s2 _).setCell s2 _).setCell s2 _).setCell s2 _).setCell s2 _).setCell s2 _
  have S2 : Hid (W2.heap.size = w1.heap.size) := K2.out.1
  have O2 : Hid (RunOwn W2 (w.heap.size + 3) g1 g2 xs ys) := O1.out.keep K2.out O1.out.1 O1.out.2.1
  have HW2 : Hid (W2 = _) := hW2
  rw [← HW2.out]
  clear hW2 q0 q1 q2 q3 q4 q5 q6 q7 q8 q9 q10 q11 q12 r0 r1 r2 r3 r4 r5 r6 r7 r8 r9 r10 r11 r12 ff
  obtain ⟨q0, q1, q2, q3, q4, q5, q6, q7, q8, q9, q10, q11, q12⟩ := E0.out.cells13
  go_wp2_with fail
  refine (toVoteS a c vs W2 (H3.out.below B2.out) hn HL.out).mono ?_
  rintro e w3 ⟨rfl, ⟨gs, own⟩, row, b3⟩
  have F1 : Hid (Blk w3 (w.heap.size + 1) _ _) := E1.out.keep b3
  have F2 : Hid (Blk w3 (w.heap.size + 1 + 1) _ _) := E2.out.keep b3
  have B3 : Hid (Below w.heap.size w w3) := B2.out.trans (b3.mono B2.out.size)
  have O3 : Hid (RunOwn w3 (w.heap.size + 3) g1 g2 xs ys) := O2.out.below b3
  have V3 : Hid (CopyV w3 W2.heap.size gs (bodies vs) ∧ RowV w3 W2.heap.size vs.length) := ⟨own, row⟩
  have N3 : Hid (w.heap.size + 3 ≤ W2.heap.size ∧ g1 < W2.heap.size ∧ g2 < W2.heap.size) := ⟨by have := S2.out; have := S1.out; omega, O2.out.2.2.2.1.1, O2.out.2.2.2.2.1.1⟩
  clear b3 own row q0 q1 q2 q3 q4 q5 q6 q7 q8 q9 q10 q11 q12
  obtain ⟨i0, i1, i2, i3, i4, i5, i6, i7, i8, i9, i10, i11, i12⟩ := F1.out.cells13
  obtain ⟨o0, o1, o2, o3, o4, o5, o6, o7, o8, o9, o10, o11, o12⟩ := F2.out.cells13
  have fo := F2.out.frozen
  have fi := F1.out.frozen
  go_wp2
  have KK : ∀ {u : World} (b o : Nat) (x : Value), b < w.heap.size + 3 → KeepFrom (w.heap.size + 3) w3 u → KeepFrom (w.heap.size + 3) w3 (u.setCell ⟨b, o, none⟩ x) := fun b o x hb h => h.setCell (by exact hb) x
  have t2 : w.heap.size + 1 + 1 < w.heap.size + 3 := by omega
  have t1 : w.heap.size + 1 < w.heap.size + 3 := by omega
  have KF : KeepFrom (w.heap.size + 3) w3 ((((((((((((((w3.setCell ⟨w.heap.size + 1 + 1, 12, none⟩ (.slice (some ⟨W2.heap.size, 0, none⟩) vs.length vs.length)).setCell ⟨w.heap.size + 1, 0, none⟩ (.int .i64 kd)).setCell ⟨w.heap.size + 1, 1, none⟩ (.int .i64 sr)).setCell ⟨w.heap.size + 1, 2, none⟩ (.int .i64 ds)).setCell ⟨w.heap.size + 1, 3, none⟩ (.int .i64 bl)).setCell ⟨w.heap.size + 1, 4, none⟩ (.int .i64 st)).setCell ⟨w.heap.size + 1, 5, none⟩ (.bool n)).setCell ⟨w.heap.size + 1, 6, none⟩ (.int .i64 p)).setCell ⟨w.heap.size + 1, 7, none⟩ (.int .i64 q)).setCell ⟨w.heap.size + 1, 8, none⟩ (.slice (some ⟨g1, 0, none⟩) xs.length xs.length)).setCell ⟨w.heap.size + 1, 9, none⟩ (.slice (some ⟨g2, 0, none⟩) ys.length ys.length)).setCell ⟨w.heap.size + 1, 10, none⟩ (.int .i64 v)).setCell ⟨w.heap.size + 1, 11, none⟩ (.int .i64 k)).setCell ⟨w.heap.size + 1, 12, none⟩ (.slice (some ⟨W2.heap.size, 0, none⟩) vs.length vs.length)) := (KK _ 12 _ t1 (KK _ 11 _ t1 (KK _ 10 _ t1 (KK _ 9 _ t1 (KK _ 8 _ t1 (KK _ 7 _ t1 (KK _ 6 _ t1 (KK _ 5 _ t1 (KK _ 4 _ t1 (KK _ 3 _ t1 (KK _ 2 _ t1 (KK _ 1 _ t1 (KK _ 0 _ t1 (KK _ 12 _ t2 (KeepFrom.refl _ _)))))))))))))))
  refine bodyPost_ret (v := .agg #[.int .i64 kd, .int .i64 sr, .int .i64 ds, .int .i64 bl, .int .i64 st, .bool n, .int .i64 p, .int .i64 q, .slice (some ⟨g1, 0, none⟩) xs.length xs.length, .slice (some ⟨g2, 0, none⟩) ys.length ys.length, .int .i64 v, .int .i64 k, .slice (some ⟨W2.heap.size, 0, none⟩) vs.length vs.length]) (by simp [results, Tryz.results6, go_sem, i0, i1, i2, i3, i4, i5, i6, i7, i8, i9, i10, i11, i12]) rfl ⟨g1, g2, W2.heap.size, gs, rfl, ?_, N3.out.2.1, N3.out.2.2, ?_, ?_, ?_⟩
  · have h := O3.out.keep KF O3.out.1 O3.out.2.1
    exact ⟨by have := h.1; omega, by have := h.2.1; omega, h.2.2⟩
  · exact V3.out.1.keep KF N3.out.1
  · exact V3.out.2.block (KF.2 _ N3.out.1)
  · have s2 : w.heap.size ≤ w.heap.size + 1 + 1 := by omega
    have s1 : w.heap.size ≤ w.heap.size + 1 := by omega
    exact ((((((((((((((B3.out.setCell s2 _).setCell s1 _).setCell s1 _).setCell s1 _).setCell s1 _).setCell s1 _).setCell s1 _).setCell s1 _).setCell s1 _).setCell s1 _).setCell s1 _).setCell s1 _).setCell s1 _).setCell s1 _)

set_option maxRecDepth 100000 in
set_option maxHeartbeats 1000000 in
theorem eqMsg (kd sr ds bl st : Int) (n : Bool) (p q : Int) (a1 a2 b1 b2 : Option Addr) (c1 c2 d1 d2 : Nat) (xs ys : List P2) (v k : Int) (a b : Option Addr) (c d : Nat) (vs us : List VM) (w : World) (h1 : Sl w a1 xs) (h2 : Sl w a2 ys) (h3 : Sl w b1 xs) (h4 : Sl w b2 ys) (hx : xs.length ≤ 2 ^ 40) (hy : ys.length ≤ 2 ^ 40) (h5 : SlV w a vs) (h6 : SlV w b us) (hb : bodies vs = bodies us) (hn : vs.length ≤ 2 ^ 40) (hl : VL0 vs) :
    Calls Tryz.prog 8 #[.agg #[.int .i64 kd, .int .i64 sr, .int .i64 ds, .int .i64 bl, .int .i64 st, .bool n, .int .i64 p, .int .i64 q, .slice a1 xs.length c1, .slice a2 ys.length c2, .int .i64 v, .int .i64 k, .slice a vs.length c], .agg #[.int .i64 kd, .int .i64 sr, .int .i64 ds, .int .i64 bl, .int .i64 st, .bool n, .int .i64 p, .int .i64 q, .slice b1 xs.length d1, .slice b2 ys.length d2, .int .i64 v, .int .i64 k, .slice b us.length d]] w fun e w' => e = .returned (.bool true) ∧ Below w.heap.size w w' := by
  have H1 : Hid (Sl w a1 xs) := h1
  have H2 : Hid (Sl w a2 ys) := h2
  have H3 : Hid (Sl w b1 xs) := h3
  have H4 : Hid (Sl w b2 ys) := h4
  have EV : Hid (∀ w', Below w.heap.size w w' → Calls Tryz.prog 21 #[.slice a vs.length c, .slice b us.length d] w' fun e w'' => e = .returned (.bool true) ∧ Below w'.heap.size w' w'') := fun w' hw => eqVoteS a b c d vs us w' (h5.below hw) (h6.below hw) hb hn hl
  clear h1 h2 h3 h4 h5 h6 hb hl
  obtain ⟨W, hW⟩ : ∃ W, W = (w.alloc (.cells #[.int .i64 kd, .int .i64 sr, .int .i64 ds, .int .i64 bl, .int .i64 st, .bool n, .int .i64 p, .int .i64 q, .slice a1 xs.length c1, .slice a2 ys.length c2, .int .i64 v, .int .i64 k, .slice a vs.length c] 44)).alloc (.cells #[.int .i64 kd, .int .i64 sr, .int .i64 ds, .int .i64 bl, .int .i64 st, .bool n, .int .i64 p, .int .i64 q, .slice b1 xs.length d1, .slice b2 ys.length d2, .int .i64 v, .int .i64 k, .slice b us.length d] 44) := ⟨_, rfl⟩
  have BW : Hid (Below w.heap.size w W) := by
    show Below _ _ _
    rw [hW]; exact ((Below.refl _ _).alloc (Nat.le_refl _) _).alloc (by simp) _
  have G0 : Hid (Blk W w.heap.size #[.int .i64 kd, .int .i64 sr, .int .i64 ds, .int .i64 bl, .int .i64 st, .bool n, .int .i64 p, .int .i64 q, .slice a1 xs.length c1, .slice a2 ys.length c2, .int .i64 v, .int .i64 k, .slice a vs.length c] 44) := by show Blk _ _ _ _; rw [hW]; exact (Blk.new _ _ _).alloc _
  have G1 : Hid (Blk W (w.heap.size + 1) #[.int .i64 kd, .int .i64 sr, .int .i64 ds, .int .i64 bl, .int .i64 st, .bool n, .int .i64 p, .int .i64 q, .slice b1 xs.length d1, .slice b2 ys.length d2, .int .i64 v, .int .i64 k, .slice b us.length d] 44) := by show Blk _ _ _ _; rw [hW]; exact Blk.new2 _ _ _ _
  have HW : Hid (W = _) := hW
  clear hW
  have e1 : (kd != kd) = false := by simp
  have e2 : (sr != sr) = false := by simp
  have e3 : (ds != ds) = false := by simp
  have e4 : (bl != bl) = false := by simp
  have e5 : (st != st) = false := by simp
  go_enter Tryz.func8, Tryz.ntmps8
  go_wp2_with fail
  rw [← HW.out]
  refine (eqEntry n p q a1 a2 b1 b2 c1 c2 d1 d2 xs ys v k W (H1.out.below BW.out) (H2.out.below BW.out) (H3.out.below BW.out) (H4.out.below BW.out) hx hy).mono ?_
  rintro e w1 ⟨rfl, b1'⟩
  have B1 : Hid (Below w.heap.size w w1) := BW.out.trans (b1'.mono BW.out.size)
  obtain ⟨q0, q1, q2, q3, q4, q5, q6, q7, q8, q9, q10, q11, q12⟩ := (G0.out.keep b1').cells13
  obtain ⟨r0, r1, r2, r3, r4, r5, r6, r7, r8, r9, r10, r11, r12⟩ := (G1.out.keep b1').cells13
  clear b1'
  go_wp2_with fail
  refine (EV.out w1 B1.out).mono ?_
  rintro e w2 ⟨rfl, b2'⟩
  have B2 : Hid (Below w.heap.size w w2) := B1.out.trans (b2'.mono B1.out.size)
  clear b2' q0 q1 q2 q3 q4 q5 q6 q7 q8 q9 q10 q11 q12 r0 r1 r2 r3 r4 r5 r6 r7 r8 r9 r10 r11 r12
  go_wp2_with fail
  go_ret
  exact ⟨rfl, B2.out⟩
end Go.Proofs.YtildonpdmmliaaaGreatDoor.Own

namespace Go.Proofs.YtildonpdmmliaaaGreatDoor.Own
open Go.RowKit
set_option linter.unusedVariables false

structure MM where
  kind : Int
  src : Int
  dst : Int
  bal : Int
  slot : Int
  b : EB
  a1 : Option Addr
  c1 : Nat
  a2 : Option Addr
  c2 : Nat
  a : Option Addr
  c : Nat
  vs : List VM
def MM.sz (x : MM) : Nat := x.b.xs.length + x.b.ys.length + (x.vs.length + sumV x.vs x.vs.length)
/-- It lies in memory, and can be read. -/
def AtM (w : World) (x : MM) : Prop := Sl w x.a1 x.b.xs ∧ Sl w x.a2 x.b.ys ∧ SlV w x.a x.vs
theorem AtM.below {w w' : World} {x : MM} (h : AtM w x) (hb : Below w.heap.size w w') : AtM w' x := ⟨h.1.below hb, h.2.1.below hb, h.2.2.below hb⟩
/-- It came in. -/
def InM (w : World) (x : MM) : Prop := AtM w x ∧ x.b.xs.length ≤ maxLen ∧ x.b.ys.length ≤ maxLen ∧ x.vs.length ≤ maxLen ∧ VM0 x.vs
theorem InM.below {w w' : World} {x : MM} (h : InM w x) (hb : Below w.heap.size w w') : InM w' x := ⟨h.1.below hb, h.2⟩
/-- Its lists are of a length that the walks take. -/
def FitM (x : MM) : Prop := x.b.xs.length ≤ 2 ^ 40 ∧ x.b.ys.length ≤ 2 ^ 40 ∧ x.b.xs.length ≤ x.c1 ∧ x.b.ys.length ≤ x.c2 ∧ x.vs.length ≤ 2 ^ 40 ∧ VLs x.vs
theorem MM.small {x : MM} (h : x.sz ≤ 1048576) : x.b.xs.length ≤ 2 ^ 40 ∧ x.b.ys.length ≤ 2 ^ 40 ∧ x.vs.length ≤ 2 ^ 40 ∧ VL0 x.vs := by
  unfold MM.sz at h
  exact ⟨by omega, by omega, by omega, VL0.ofSum (n := 1048576) (by omega) (by decide)⟩
abbrev GM := Nat × Nat × Nat × List (Nat × Nat)
/-- A copy of one's own. -/
def OwnM (w : World) (g : GM) (x : MM) : Prop := RunOwn w 0 g.1 g.2.1 x.b.xs x.b.ys ∧ CopyV w g.2.2.1 g.2.2.2 (bodies x.vs)
theorem OwnM.below {w w' : World} {g : GM} {x : MM} (h : OwnM w g x) (hb : Below w.heap.size w w') : OwnM w' g x := ⟨h.1.below hb, h.2.below hb⟩
/-- The copy, as a message that can be read. -/
def cpM (g : GM) (x : MM) : MM := { x with a1 := some ⟨g.1, 0, none⟩, c1 := x.b.xs.length, a2 := some ⟨g.2.1, 0, none⟩, c2 := x.b.ys.length, a := some ⟨g.2.2.1, 0, none⟩, c := x.vs.length, vs := vmsOf g.2.2.2 (bodies x.vs) }
theorem OwnM.at {w : World} {g : GM} {x : MM} (h : OwnM w g x) : AtM w (cpM g x) := ⟨.inr ⟨_, _, rfl, h.1.2.2.2.1⟩, .inr ⟨_, _, rfl, h.1.2.2.2.2.1⟩, h.2.sl⟩
theorem cpM_fit {x : MM} (h : x.sz ≤ 1048576) (g : GM) : FitM (cpM g x) := by
  obtain ⟨h1, h2, h3, h4⟩ := MM.small h
  exact ⟨h1, h2, Nat.le_refl _, Nat.le_refl _, by show (vmsOf _ _).length ≤ _; rw [vmsOf_len, bodies_len]; exact h3, vls_of h4 _⟩
theorem cpM_cells (x : MM) (g : GM) : (Value.agg #[.int .i64 (cpM g x).kind, .int .i64 (cpM g x).src, .int .i64 (cpM g x).dst, .int .i64 (cpM g x).bal, .int .i64 (cpM g x).slot, .bool (cpM g x).b.n, .int .i64 (cpM g x).b.p, .int .i64 (cpM g x).b.q, .slice (cpM g x).a1 (cpM g x).b.xs.length (cpM g x).c1, .slice (cpM g x).a2 (cpM g x).b.ys.length (cpM g x).c2, .int .i64 (cpM g x).b.v, .int .i64 (cpM g x).b.k, .slice (cpM g x).a (cpM g x).vs.length (cpM g x).c]) = .agg #[.int .i64 x.kind, .int .i64 x.src, .int .i64 x.dst, .int .i64 x.bal, .int .i64 x.slot, .bool x.b.n, .int .i64 x.b.p, .int .i64 x.b.q, .slice (some ⟨g.1, 0, none⟩) x.b.xs.length x.b.xs.length, .slice (some ⟨g.2.1, 0, none⟩) x.b.ys.length x.b.ys.length, .int .i64 x.b.v, .int .i64 x.b.k, .slice (some ⟨g.2.2.1, 0, none⟩) x.vs.length x.vs.length] := by
  simp only [cpM, vmsOf_len, bodies_len]

theorem szM (x : MM) (left : Int) (w : World) (h : InM w x) (h0 : 0 ≤ left) (h1 : left ≤ 2 ^ 60) :
    Calls Tryz.prog 4 #[.agg #[.int .i64 x.kind, .int .i64 x.src, .int .i64 x.dst, .int .i64 x.bal, .int .i64 x.slot, .bool x.b.n, .int .i64 x.b.p, .int .i64 x.b.q, .slice x.a1 x.b.xs.length x.c1, .slice x.a2 x.b.ys.length x.c2, .int .i64 x.b.v, .int .i64 x.b.k, .slice x.a x.vs.length x.c], .int .i64 left] w fun e w' => e = .returned (.int .i64 (if left < (x.sz : Nat) then -1 else left - (x.sz : Nat))) ∧ Below w.heap.size w w' :=
  szMsg x.kind x.src x.dst x.bal x.slot x.b.n x.b.p x.b.q x.a1 x.a2 x.c1 x.c2 x.b.xs x.b.ys x.b.v x.b.k x.a x.c x.vs left w h.2.1 h.2.2.1 h.1.2.2 h.2.2.2.1 h.2.2.2.2 h0 h1
theorem toM (x : MM) (w : World) (h : InM w x) (hs : x.sz ≤ 1048576) :
    Calls Tryz.prog 6 #[.agg #[.int .i64 x.kind, .int .i64 x.src, .int .i64 x.dst, .int .i64 x.bal, .int .i64 x.slot, .bool x.b.n, .int .i64 x.b.p, .int .i64 x.b.q, .slice x.a1 x.b.xs.length x.c1, .slice x.a2 x.b.ys.length x.c2, .int .i64 x.b.v, .int .i64 x.b.k, .slice x.a x.vs.length x.c]] w fun e w' => ∃ g : GM, e = .returned (.agg #[.int .i64 x.kind, .int .i64 x.src, .int .i64 x.dst, .int .i64 x.bal, .int .i64 x.slot, .bool x.b.n, .int .i64 x.b.p, .int .i64 x.b.q, .slice (some ⟨g.1, 0, none⟩) x.b.xs.length x.b.xs.length, .slice (some ⟨g.2.1, 0, none⟩) x.b.ys.length x.b.ys.length, .int .i64 x.b.v, .int .i64 x.b.k, .slice (some ⟨g.2.2.1, 0, none⟩) x.vs.length x.vs.length]) ∧ OwnM w' g x ∧ Below w.heap.size w w' := by
  refine (toMsg x.kind x.src x.dst x.bal x.slot x.b.n x.b.p x.b.q x.a1 x.a2 x.c1 x.c2 x.b.xs x.b.ys x.b.v x.b.k x.a x.c x.vs w h.1.1 h.1.2.1 (MM.small hs).1 (MM.small hs).2.1 h.1.2.2 (MM.small hs).2.2.1 (MM.small hs).2.2.2).mono ?_
  rintro e w' ⟨g1, g2, g, gs, rfl, ho, _, _, hc, _, hb⟩
  exact ⟨(g1, g2, g, gs), rfl, ⟨⟨Nat.zero_le _, Nat.zero_le _, ho.2.2⟩, hc⟩, hb⟩
theorem eqM (x : MM) (g g' : GM) (w : World) (h : OwnM w g x) (h' : OwnM w g' x) (hs : x.sz ≤ 1048576) :
    Calls Tryz.prog 8 #[.agg #[.int .i64 x.kind, .int .i64 x.src, .int .i64 x.dst, .int .i64 x.bal, .int .i64 x.slot, .bool x.b.n, .int .i64 x.b.p, .int .i64 x.b.q, .slice (some ⟨g.1, 0, none⟩) x.b.xs.length x.b.xs.length, .slice (some ⟨g.2.1, 0, none⟩) x.b.ys.length x.b.ys.length, .int .i64 x.b.v, .int .i64 x.b.k, .slice (some ⟨g.2.2.1, 0, none⟩) x.vs.length x.vs.length], .agg #[.int .i64 x.kind, .int .i64 x.src, .int .i64 x.dst, .int .i64 x.bal, .int .i64 x.slot, .bool x.b.n, .int .i64 x.b.p, .int .i64 x.b.q, .slice (some ⟨g'.1, 0, none⟩) x.b.xs.length x.b.xs.length, .slice (some ⟨g'.2.1, 0, none⟩) x.b.ys.length x.b.ys.length, .int .i64 x.b.v, .int .i64 x.b.k, .slice (some ⟨g'.2.2.1, 0, none⟩) x.vs.length x.vs.length]] w fun e w' => e = .returned (.bool true) ∧ Below w.heap.size w w' := by
  have h := eqMsg x.kind x.src x.dst x.bal x.slot x.b.n x.b.p x.b.q (some ⟨g.1, 0, none⟩) (some ⟨g.2.1, 0, none⟩) (some ⟨g'.1, 0, none⟩) (some ⟨g'.2.1, 0, none⟩) x.b.xs.length x.b.ys.length x.b.xs.length x.b.ys.length x.b.xs x.b.ys x.b.v x.b.k (some ⟨g.2.2.1, 0, none⟩) (some ⟨g'.2.2.1, 0, none⟩) x.vs.length x.vs.length (vmsOf g.2.2.2 (bodies x.vs)) (vmsOf g'.2.2.2 (bodies x.vs)) w
    h.at.1 h.at.2.1 h'.at.1 h'.at.2.1 (MM.small hs).1 (MM.small hs).2.1 h.at.2.2 h'.at.2.2 (by rw [vmsOf_bodies, vmsOf_bodies]) (by rw [vmsOf_len, bodies_len]; exact (MM.small hs).2.2.1) ((MM.small hs).2.2.2.vms g.2.2.2)
  rw [vmsOf_len, vmsOf_len, bodies_len] at h
  exact h
end Go.Proofs.YtildonpdmmliaaaGreatDoor.Own

namespace Go.Proofs.YtildonpdmmliaaaGreatDoor.Own
open Go.RowKit

def eq2 (p q : P2) : Bool := p.1 == q.1 && p.2 == q.2
theorem eq2_iff (p q : P2) : eq2 p q = true ↔ p = q := by
  obtain ⟨a, b⟩ := p
  obtain ⟨a', b'⟩ := q
  simp [eq2]
theorem eq2_false (p q : P2) : eq2 p q = false ↔ p ≠ q := by
  rw [← Bool.not_eq_true, eq2_iff]

/-- Two runs are one. -/
def sameRun (xs ys zs us : List P2) (v k v' k' : Int) : Bool := k == k' && v == v' && xs == zs && ys == us
end Go.Proofs.YtildonpdmmliaaaGreatDoor.Own

namespace Go.Proofs.YtildonpdmmliaaaGreatDoor.Own
open Go.RowKit
set_option linter.unusedVariables false

theorem eqRead1 (d : Nat) (a b a' b' : Int) (w : World) : (Op.equalIn (d+2) 81 (.agg #[.int .i64 a, .int .i64 b]) (.agg #[.int .i64 a', .int .i64 b'])).run Tryz.prog w = .ok (eq2 (a, b) (a', b')) w := by
  unfold eq2
  go_simp
  by_cases h : a = a'
  · by_cases h1 : b = b' <;> simp [h, h1]
  · simp [h]
theorem neqRead (a b a' b' : Int) (w : World) : (binOp .neq 81 (.agg #[.int .i64 a, .int .i64 b]) (.agg #[.int .i64 a', .int .i64 b'])).run Tryz.prog w = .ok (.bool (!(eq2 (a, b) (a', b')))) w := by
  rw [run_neq_struct, eqRead1 9998]; rfl

set_option maxRecDepth 100000 in
set_option maxHeartbeats 1000000 in
theorem equalRead (a1 a2 : Option Addr) (c1 c2 : Nat) (xs ys : List P2) (w : World) (h1 : Sl w a1 xs) (h2 : Sl w a2 ys) (l1 : xs.length ≤ 2 ^ 40) (l2 : ys.length ≤ 2 ^ 40) :
    Calls Tryz.prog 75 #[.slice a1 xs.length c1, .slice a2 ys.length c2] w fun e w' => e = .returned (.bool (xs == ys)) ∧ Below w.heap.size w w' := by
  have H1 : Hid (Sl w a1 xs) := h1
  have H2 : Hid (Sl w a2 ys) := h2
  clear h1 h2
  by_cases hl : xs.length = ys.length
  · have hl' : ((xs.length : Int) != (ys.length : Int)) = false := by simp [hl]
    have Hl : Hid (xs.length = ys.length) := hl
    clear hl
    go_enter Tryz.func75, Tryz.ntmps75
    go_wp2
    go_loopw [13] (fun i wr => ∃ k : Nat, k ≤ xs.length ∧ i = .int .i64 k ∧ Hid (xs.take k = ys.take k) ∧ Below w.heap.size w wr) (fun i _ => xs.length - (intOf i).toNat)
    case atStart => exact ⟨0, Nat.zero_le _, rfl, rfl, Below.refl _ _⟩
    case round =>
      obtain ⟨k, hk, rfl, hE, hB⟩ := hrel
      by_cases hlt : k < xs.length
      · have hlt2 : k < ys.length := by rw [← Hl.out]; exact hlt
        rcases H1.out with h | ⟨b1, o1, rfl, h1⟩
        · subst h; simp at hlt
        rcases H2.out with h | ⟨b2, o2, rfl, h2⟩
        · subst h; simp at hlt2
        have H1' : Hid (BoxAt w b1 o1 xs) := h1
        have H2' : Hid (BoxAt w b2 o2 ys) := h2
        clear h1 h2
        have HT : Hid ((xs.take (k + 1) = ys.take (k + 1)) ↔ (xs.getD k (0, 0) = ys.getD k (0, 0))) := by
          unfold Hid; rw [take_succ_eqG (0, 0) hlt hlt2]; exact ⟨fun h => h.2, fun h => ⟨hE, h⟩⟩
        obtain ⟨p, hp⟩ : ∃ p, p = xs.getD k (0, 0) := ⟨_, rfl⟩
        obtain ⟨q, hq⟩ : ∃ q, q = ys.getD k (0, 0) := ⟨_, rfl⟩
        obtain ⟨ca, cb⟩ := H1'.out.2 k hlt
        obtain ⟨da, db⟩ := H2'.out.2 k hlt2
        rw [← hB.cell H1'.out.1, ← hp] at ca cb
        rw [← hB.cell H2'.out.1, ← hq] at da db
        have HP : Hid (p = xs.getD k (0, 0)) := hp
        have HQ : Hid (q = ys.getD k (0, 0)) := hq
        clear hp hq
        obtain ⟨p1, p2⟩ := p
        obtain ⟨q1, q2⟩ := q
        have HB : Hid (Below w.heap.size w wr) := hB
        clear hB
        have hne := fun w => neqRead p1 p2 q1 q2 w
        by_cases hpq : eq2 (p1, p2) (q1, q2) = true
        · have N : Hid (xs.take (k + 1) = ys.take (k + 1)) := by
            show _ = _
            apply HT.out.2
            rw [← HP.out, ← HQ.out]
            exact (eq2_iff _ _).1 hpq
          rw [hpq] at hne
          go_wp2
          go_quiet (fail)
          go_wp2
          go_roundw
          case rel => exact ⟨k + 1, by omega, by go_num, N, below_drewN HB.out _⟩
          case measure => simp [intOf]; omega
        · have hpq' : eq2 (p1, p2) (q1, q2) = false := by simpa using hpq
          have F : Hid ((xs == ys) = false) := by
            show _ = _
            apply ne_of_getDG (k := k) (0, 0)
            rw [← HP.out, ← HQ.out]
            exact (eq2_false _ _).1 hpq'
          clear hpq
          rw [hpq'] at hne
          go_wp2
          go_quiet (fail)
          go_wp2
          go_ret
          exact ⟨ret_bool F.out.symm, below_drewN HB.out _⟩
      · go_wp2
        go_ret
        have : k = xs.length := by omega
        subst this
        refine ⟨ret_bool ?_, hB⟩
        have h := hE
        unfold Hid at h
        rw [List.take_length] at h
        have h3 := Hl.out
        rw [List.take_of_length_le (by omega)] at h
        simp [h]
  · have hl' : ((xs.length : Int) != (ys.length : Int)) = true := by simp; omega
    go_enter Tryz.func75, Tryz.ntmps75
    go_wp2
    go_ret
    refine ⟨ret_bool ?_, Below.refl _ _⟩
    symm
    simp
    intro h; exact hl (by rw [h])
end Go.Proofs.YtildonpdmmliaaaGreatDoor.Own

namespace Go.Proofs.YtildonpdmmliaaaGreatDoor.Own
open Go.RowKit
set_option linter.unusedVariables false

/-- Two entries are one. -/
def likeE (n n' : Bool) (p p' : P2) (xs ys zs us : List P2) (v k v' k' : Int) : Bool := n == n' && eq2 p p' && sameRun xs ys zs us v k v' k'
theorem likeE_none {n n' : Bool} (p p' : P2) (xs ys zs us : List P2) (v k v' k' : Int) (h : (n == n') = false) : likeE n n' p p' xs ys zs us v k v' k' = false := by simp [likeE, h]
theorem likeE_req {n n' : Bool} {p p' : P2} (xs ys zs us : List P2) (v k v' k' : Int) (h : eq2 p p' = false) : likeE n n' p p' xs ys zs us v k v' k' = false := by simp [likeE, h]
theorem likeE_run {n n' : Bool} {p p' : P2} (xs ys zs us : List P2) (v k v' k' : Int) (h : (n == n') = true) (h2 : eq2 p p' = true) : likeE n n' p p' xs ys zs us v k v' k' = sameRun xs ys zs us v k v' k' := by simp [likeE, h, h2]

theorem eqReq1 (d : Nat) (a b a' b' : Int) (w : World) : (Op.equalIn (d+2) 35 (.agg #[.int .i64 a, .int .i64 b]) (.agg #[.int .i64 a', .int .i64 b'])).run Tryz.prog w = .ok (eq2 (a, b) (a', b')) w := by
  unfold eq2
  go_simp
  by_cases h : a = a'
  · by_cases h1 : b = b' <;> simp [h, h1]
  · simp [h]
theorem eqlReq (a b a' b' : Int) (w : World) : (binOp .eql 35 (.agg #[.int .i64 a, .int .i64 b]) (.agg #[.int .i64 a', .int .i64 b'])).run Tryz.prog w = .ok (.bool (eq2 (a, b) (a', b'))) w := by
  rw [run_eql_struct, eqReq1 9998]; rfl
end Go.Proofs.YtildonpdmmliaaaGreatDoor.Own

namespace Go.Proofs.YtildonpdmmliaaaGreatDoor.Own
open Go.RowKit
set_option linter.unusedVariables false

theorem eqPut1 (d : Nat) (a b a' b' : Int) (w : World) : (Op.equalIn (d+2) 83 (.agg #[.int .i64 a, .int .i64 b]) (.agg #[.int .i64 a', .int .i64 b'])).run Tryz.prog w = .ok (eq2 (a, b) (a', b')) w := by
  unfold eq2
  go_simp
  by_cases h : a = a'
  · by_cases h1 : b = b' <;> simp [h, h1]
  · simp [h]
theorem neqPut (a b a' b' : Int) (w : World) : (binOp .neq 83 (.agg #[.int .i64 a, .int .i64 b]) (.agg #[.int .i64 a', .int .i64 b'])).run Tryz.prog w = .ok (.bool (!(eq2 (a, b) (a', b')))) w := by
  rw [run_neq_struct, eqPut1 9998]; rfl

set_option maxRecDepth 100000 in
set_option maxHeartbeats 1000000 in
theorem equalPut (a1 a2 : Option Addr) (c1 c2 : Nat) (xs ys : List P2) (w : World) (h1 : Sl w a1 xs) (h2 : Sl w a2 ys) (l1 : xs.length ≤ 2 ^ 40) (l2 : ys.length ≤ 2 ^ 40) :
    Calls Tryz.prog 76 #[.slice a1 xs.length c1, .slice a2 ys.length c2] w fun e w' => e = .returned (.bool (xs == ys)) ∧ Below w.heap.size w w' := by
  have H1 : Hid (Sl w a1 xs) := h1
  have H2 : Hid (Sl w a2 ys) := h2
  clear h1 h2
  by_cases hl : xs.length = ys.length
  · have hl' : ((xs.length : Int) != (ys.length : Int)) = false := by simp [hl]
    have Hl : Hid (xs.length = ys.length) := hl
    clear hl
    go_enter Tryz.func76, Tryz.ntmps76
    go_wp2
    go_loopw [13] (fun i wr => ∃ k : Nat, k ≤ xs.length ∧ i = .int .i64 k ∧ Hid (xs.take k = ys.take k) ∧ Below w.heap.size w wr) (fun i _ => xs.length - (intOf i).toNat)
    case atStart => exact ⟨0, Nat.zero_le _, rfl, rfl, Below.refl _ _⟩
    case round =>
      obtain ⟨k, hk, rfl, hE, hB⟩ := hrel
      by_cases hlt : k < xs.length
      · have hlt2 : k < ys.length := by rw [← Hl.out]; exact hlt
        rcases H1.out with h | ⟨b1, o1, rfl, h1⟩
        · subst h; simp at hlt
        rcases H2.out with h | ⟨b2, o2, rfl, h2⟩
        · subst h; simp at hlt2
        have H1' : Hid (BoxAt w b1 o1 xs) := h1
        have H2' : Hid (BoxAt w b2 o2 ys) := h2
        clear h1 h2
        have HT : Hid ((xs.take (k + 1) = ys.take (k + 1)) ↔ (xs.getD k (0, 0) = ys.getD k (0, 0))) := by
          unfold Hid; rw [take_succ_eqG (0, 0) hlt hlt2]; exact ⟨fun h => h.2, fun h => ⟨hE, h⟩⟩
        obtain ⟨p, hp⟩ : ∃ p, p = xs.getD k (0, 0) := ⟨_, rfl⟩
        obtain ⟨q, hq⟩ : ∃ q, q = ys.getD k (0, 0) := ⟨_, rfl⟩
        obtain ⟨ca, cb⟩ := H1'.out.2 k hlt
        obtain ⟨da, db⟩ := H2'.out.2 k hlt2
        rw [← hB.cell H1'.out.1, ← hp] at ca cb
        rw [← hB.cell H2'.out.1, ← hq] at da db
        have HP : Hid (p = xs.getD k (0, 0)) := hp
        have HQ : Hid (q = ys.getD k (0, 0)) := hq
        clear hp hq
        obtain ⟨p1, p2⟩ := p
        obtain ⟨q1, q2⟩ := q
        have HB : Hid (Below w.heap.size w wr) := hB
        clear hB
        have hne := fun w => neqPut p1 p2 q1 q2 w
        by_cases hpq : eq2 (p1, p2) (q1, q2) = true
        · have N : Hid (xs.take (k + 1) = ys.take (k + 1)) := by
            show _ = _
            apply HT.out.2
            rw [← HP.out, ← HQ.out]
            exact (eq2_iff _ _).1 hpq
          rw [hpq] at hne
          go_wp2
          go_quiet (fail)
          go_wp2
          go_roundw
          case rel => exact ⟨k + 1, by omega, by go_num, N, below_drewN HB.out _⟩
          case measure => simp [intOf]; omega
        · have hpq' : eq2 (p1, p2) (q1, q2) = false := by simpa using hpq
          have F : Hid ((xs == ys) = false) := by
            show _ = _
            apply ne_of_getDG (k := k) (0, 0)
            rw [← HP.out, ← HQ.out]
            exact (eq2_false _ _).1 hpq'
          clear hpq
          rw [hpq'] at hne
          go_wp2
          go_quiet (fail)
          go_wp2
          go_ret
          exact ⟨ret_bool F.out.symm, below_drewN HB.out _⟩
      · go_wp2
        go_ret
        have : k = xs.length := by omega
        subst this
        refine ⟨ret_bool ?_, hB⟩
        have h := hE
        unfold Hid at h
        rw [List.take_length] at h
        have h3 := Hl.out
        rw [List.take_of_length_le (by omega)] at h
        simp [h]
  · have hl' : ((xs.length : Int) != (ys.length : Int)) = true := by simp; omega
    go_enter Tryz.func76, Tryz.ntmps76
    go_wp2
    go_ret
    refine ⟨ret_bool ?_, Below.refl _ _⟩
    symm
    simp
    intro h; exact hl (by rw [h])
end Go.Proofs.YtildonpdmmliaaaGreatDoor.Own

namespace Go.Proofs.YtildonpdmmliaaaGreatDoor.Own
open Go.RowKit
set_option linter.unusedVariables false
set_option linter.unusedSimpArgs false

set_option maxRecDepth 100000 in
set_option maxHeartbeats 1000000 in
theorem implExecSame (a1 a2 b1 b2 : Option Addr) (c1 c2 d1 d2 : Nat) (xs ys zs us : List P2) (v k v' k' : Int) (w : World) (h1 : Sl w a1 xs) (h2 : Sl w a2 ys) (h3 : Sl w b1 zs) (h4 : Sl w b2 us)
    (n1 : xs.length ≤ 2 ^ 40) (n2 : ys.length ≤ 2 ^ 40) (n3 : zs.length ≤ 2 ^ 40) (n4 : us.length ≤ 2 ^ 40) :
    Calls Tryz.prog 71 #[.agg #[.slice a1 xs.length c1, .slice a2 ys.length c2, .int .i64 v, .int .i64 k], .agg #[.slice b1 zs.length d1, .slice b2 us.length d2, .int .i64 v', .int .i64 k']] w fun e w' => e = .returned (.bool (sameRun xs ys zs us v k v' k')) ∧ Below w.heap.size w w' := by
  have H1 : Hid (Sl w a1 xs) := h1
  have H2 : Hid (Sl w a2 ys) := h2
  have H3 : Hid (Sl w b1 zs) := h3
  have H4 : Hid (Sl w b2 us) := h4
  clear h1 h2 h3 h4
  have E : Hid (sameRun xs ys zs us v k v' k' = (k == k' && v == v' && xs == zs && ys == us)) := rfl
  obtain ⟨W, hW⟩ : ∃ W, W = (w.alloc (.cells #[.slice a1 xs.length c1, .slice a2 ys.length c2, .int .i64 v, .int .i64 k] 39)).alloc (.cells #[.slice b1 zs.length d1, .slice b2 us.length d2, .int .i64 v', .int .i64 k'] 39) := ⟨_, rfl⟩
  have hbW : Hid (Below w.heap.size w W) := by
    show Below _ _ _
    rw [hW]; exact ((Below.refl _ _).alloc (Nat.le_refl _) _).alloc (by simp) _
  have hsW : Hid (W.heap.size = w.heap.size + 2) := by show _ = _; rw [hW]; simp
  have g0 : Hid (W.heap[w.heap.size]? = some (.cells #[.slice a1 xs.length c1, .slice a2 ys.length c2, .int .i64 v, .int .i64 k] 39 (0, 0))) := by
    show _ = _
    rw [hW]; exact heap_new1 _ _ _
  have g1 : Hid (W.heap[w.heap.size + 1]? = some (.cells #[.slice b1 zs.length d1, .slice b2 us.length d2, .int .i64 v', .int .i64 k'] 39 (0, 0))) := by
    show _ = _
    rw [hW]; exact heap_new2 _ _ _
  have HW : Hid (W = _) := hW
  clear hW
  cases hk : (k == k') with
  | false =>
    go_enter Tryz.func71, Tryz.ntmps71
    go_wp2_with fail
    go_ret
    exact ⟨ret_bool (by rw [E.out, hk]; rfl), by rw [← HW.out]; exact hbW.out⟩
  | true =>
    cases hv : (v == v') with
    | false =>
      go_enter Tryz.func71, Tryz.ntmps71
      go_wp2_with fail
      go_ret
      exact ⟨ret_bool (by rw [E.out, hv]; simp), by rw [← HW.out]; exact hbW.out⟩
    | true =>
      have E2 : Hid (sameRun xs ys zs us v k v' k' = (xs == zs && ys == us)) := by show _ = _; rw [E.out, hk, hv]; rfl
      have C1 := equalRead a1 b1 c1 d1 xs zs W (H1.out.below hbW.out) (H3.out.below hbW.out) n1 n3
      generalize (xs == zs) = r at E2 C1
      have C1' : Hid (Calls Tryz.prog 75 #[.slice a1 xs.length c1, .slice b1 zs.length d1] W fun e w' => e = .returned (.bool r) ∧ Below W.heap.size W w') := C1
      clear C1
      go_enter Tryz.func71, Tryz.ntmps71
      go_wp2_with fail
      rw [← HW.out]
      refine C1'.out.mono ?_
      rintro e w1 ⟨rfl, b1'⟩
      have B1 : Hid (Below w.heap.size w w1) := hbW.out.trans (b1'.mono hbW.out.size)
      have q0 : w1.cell? ⟨w.heap.size, 1, none⟩ = some (.slice a2 ys.length c2) := by rw [b1'.cell (p := ⟨w.heap.size, 1, none⟩) (by show w.heap.size < _; have := hsW.out; omega), cell_heap g0.out]; rfl
      have q1 : w1.cell? ⟨w.heap.size + 1, 1, none⟩ = some (.slice b2 us.length d2) := by rw [b1'.cell (p := ⟨w.heap.size + 1, 1, none⟩) (by show w.heap.size + 1 < _; have := hsW.out; omega), cell_heap g1.out]; rfl
      clear b1'
      cases r with
      | false =>
        go_wp2_with fail
        go_ret
        exact ⟨ret_bool (by rw [E2.out]; rfl), B1.out⟩
      | true =>
        go_wp2_with fail
        refine (equalPut a2 b2 c2 d2 ys us w1 (H2.out.below B1.out) (H4.out.below B1.out) n2 n4).mono ?_
        rintro e w2 ⟨rfl, b2'⟩
        have B2 : Hid (Below w.heap.size w w2) := B1.out.trans (b2'.mono B1.out.size)
        clear b2'
        generalize (ys == us) = r2 at E2
        go_wp2_with fail
        go_ret
        exact ⟨ret_bool (by rw [E2.out]; rfl), B2.out⟩
end Go.Proofs.YtildonpdmmliaaaGreatDoor.Own
