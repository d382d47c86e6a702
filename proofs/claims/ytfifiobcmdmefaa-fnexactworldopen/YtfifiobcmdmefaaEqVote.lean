/-
  Own text: what laws.eqVote and eqVoteS do.
-/
import Derived.Test.YtfifiobcmdmefaaVoteMem
import Derived.Test.YtfifiobcmdmefaaEntOps
import Derived.BigQuiet
import Derived.Lib.QuietBelow
import Derived.Deep.Cut
namespace Go.Proofs.Ytfifiobcmdmefaa.Own
open Go.RowKit Go.Sort
set_option linter.unusedVariables false
set_option linter.unusedSimpArgs false

set_option maxRecDepth 100000 in
set_option maxHeartbeats 1000000 in
theorem eqVote (m : Int) (n : Bool) (p q : Int) (a1 a2 b1 b2 : Option Addr) (c1 c2 d1 d2 : Nat) (xs ys : List P2) (v k : Int) (w : World) (h1 : Sl w a1 xs) (h2 : Sl w a2 ys) (h3 : Sl w b1 xs) (h4 : Sl w b2 ys)
    (n1 : xs.length ≤ 2 ^ 40) (n2 : ys.length ≤ 2 ^ 40) :
    Calls Try.prog 164 #[.agg #[.int .i64 m, .bool n, .int .i64 p, .int .i64 q, .slice a1 xs.length c1, .slice a2 ys.length c2, .int .i64 v, .int .i64 k], .agg #[.int .i64 m, .bool n, .int .i64 p, .int .i64 q, .slice b1 xs.length d1, .slice b2 ys.length d2, .int .i64 v, .int .i64 k]] w fun e w' => e = .returned (.bool true) ∧ Below w.heap.size w w' := by
  have H1 : Hid (Sl w a1 xs) := h1
  have H2 : Hid (Sl w a2 ys) := h2
  have H3 : Hid (Sl w b1 xs) := h3
  have H4 : Hid (Sl w b2 ys) := h4
  clear h1 h2 h3 h4
  obtain ⟨W, hW⟩ : ∃ W, W = (w.alloc (.cells #[.int .i64 m, .bool n, .int .i64 p, .int .i64 q, .slice a1 xs.length c1, .slice a2 ys.length c2, .int .i64 v, .int .i64 k] 42)).alloc (.cells #[.int .i64 m, .bool n, .int .i64 p, .int .i64 q, .slice b1 xs.length d1, .slice b2 ys.length d2, .int .i64 v, .int .i64 k] 42) := ⟨_, rfl⟩
  have BW : Hid (Below w.heap.size w W) := by
    show Below _ _ _
    rw [hW]; exact ((Below.refl _ _).alloc (Nat.le_refl _) _).alloc (by simp) _
  have HW : Hid (W = _) := hW
  clear hW
  have en : (m != m) = false := by simp
  go_enter Try.func164, Try.ntmps164
  go_wp2_with fail
  rw [← HW.out]
  refine (eqEntry n p q a1 a2 b1 b2 c1 c2 d1 d2 xs ys v k W (H1.out.below BW.out) (H2.out.below BW.out) (H3.out.below BW.out) (H4.out.below BW.out) n1 n2).mono ?_
  rintro e w2 ⟨rfl, b2'⟩
  have B2 : Hid (Below w.heap.size w w2) := BW.out.trans (b2'.mono BW.out.size)
  clear b2'
  go_wp2_with fail
  go_ret
  exact ⟨rfl, B2.out⟩

set_option maxRecDepth 100000 in
set_option maxHeartbeats 4000000 in
theorem eqVoteS (a b : Option Addr) (c d : Nat) (vs us : List VM) (w : World) (h1 : SlV w a vs) (h2 : SlV w b us) (hb : bodies vs = bodies us) (hn : vs.length ≤ 2 ^ 40) (hl : ∀ i, i < vs.length → (vs.getD i v0).b.xs.length ≤ 2 ^ 40 ∧ (vs.getD i v0).b.ys.length ≤ 2 ^ 40) :
    Calls Try.prog 140 #[.slice a vs.length c, .slice b us.length d] w fun e w' => e = .returned (.bool true) ∧ Below w.heap.size w w' := by
  obtain ⟨hlen, hbod⟩ := bodies_eq hb
  have H1 : Hid (SlV w a vs) := h1
  have H2 : Hid (SlV w b us) := h2
  have HL : Hid (∀ i, i < vs.length → (vs.getD i v0).b.xs.length ≤ 2 ^ 40 ∧ (vs.getD i v0).b.ys.length ≤ 2 ^ 40) := hl
  have HB : Hid (∀ i, (vs.getD i v0).body = (us.getD i v0).body) := hbod
  rw [← hlen]
  have HE : Hid (vs.length = us.length) := hlen
  clear h1 h2 hl hb hbod hlen
  have hne : ((vs.length : Int) != (vs.length : Int)) = false := by simp
  go_enter Try.func140, Try.ntmps140
  go_wp2_with fail
  go_loopw [5] (fun i wr => ∃ k : Nat, k ≤ vs.length ∧ i = .int .i64 k ∧ Hid (Below w.heap.size w wr)) (fun i _ => vs.length - (intOf i).toNat)
  case atStart => exact ⟨0, Nat.zero_le _, rfl, Below.refl _ _⟩
  case round =>
    obtain ⟨k, hk, rfl, KR⟩ := hrel
    by_cases hlt : k < vs.length
    · have hki : (k : Int) < (vs.length : Int) := by omega
      have hlt2 : k < us.length := by rw [← HE.out]; exact hlt
      rcases H1.out.below KR.out with hh | ⟨b1, o1, rfl, _, hh⟩
      · rw [hh] at hlt; simp at hlt
      rcases H2.out.below KR.out with hg | ⟨b2, o2, rfl, _, hg⟩
      · rw [hg] at hlt2; simp at hlt2
      obtain ⟨⟨d0, d1, d2, d3, d4, d5, d6, d7⟩, s1, s2⟩ := hh k hlt
      obtain ⟨⟨f0, f1, f2, f3, f4, f5, f6, f7⟩, t1, t2⟩ := hg k hlt2
      have lx := HL.out k hlt
      have SX : Hid (Sl wr (vs.getD k v0).a1 (vs.getD k v0).b.xs ∧ Sl wr (vs.getD k v0).a2 (vs.getD k v0).b.ys) := ⟨s1, s2⟩
      have SY : Hid (Sl wr (us.getD k v0).a1 (us.getD k v0).b.xs ∧ Sl wr (us.getD k v0).a2 (us.getD k v0).b.ys) := ⟨t1, t2⟩
      obtain ⟨be, bb⟩ := body_eq (HB.out k)
      rw [← be] at f0
      rw [← bb] at f1 f2 f3 f4 f5 f6 f7 SY
      clear hh hg s1 s2 t1 t2 be bb
      generalize vs.getD k v0 = x at d0 d1 d2 d3 d4 d5 d6 d7 f0 f1 f2 f3 f4 f5 f6 f7 lx SX SY
      generalize us.getD k v0 = y at f0 f1 f2 f3 f4 f5 f6 f7 SY
      obtain ⟨xbal, ⟨xn, xp, xq, xxs, xys, xv, xk⟩, xa1, xc1, xa2, xc2⟩ := x
      obtain ⟨ybal, yb, ya1, yc1, ya2, yc2⟩ := y
      simp only at d0 d1 d2 d3 d4 d5 d6 d7 f0 f1 f2 f3 f4 f5 f6 f7 lx SX SY
      have EQ : Hid (∀ d os, Calls Try.prog 164 #[.agg #[.int .i64 xbal, .bool xn, .int .i64 xp, .int .i64 xq, .slice xa1 xxs.length xc1, .slice xa2 xys.length xc2, .int .i64 xv, .int .i64 xk], .agg #[.int .i64 xbal, .bool xn, .int .i64 xp, .int .i64 xq, .slice ya1 xxs.length yc1, .slice ya2 xys.length yc2, .int .i64 xv, .int .i64 xk]] (grow (redrawn wr d) os) fun e w'' => e = .returned (.bool true) ∧ ∃ p : Regrown, w'' = grow (redrawn wr p.d) p.os) := fun d os => by
        have hb := below_regrown wr d os
        have h := eqVote xbal xn xp xq xa1 xa2 ya1 ya2 xc1 xc2 yc1 yc2 xxs xys xv xk _ (SX.out.1.below hb) (SX.out.2.below hb) (SY.out.1.below hb) (SY.out.2.below hb) lx.1 lx.2
        exact Calls.regrown_of h
      have m0 := cell_regrown d0
      have m1 := cell_regrown d1
      have m2 := cell_regrown d2
      have m3 := cell_regrown d3
      have m4 := cell_regrown d4
      have m5 := cell_regrown d5
      have m6 := cell_regrown d6
      have m7 := cell_regrown d7
      have r0 := cell_regrown f0
      have r1 := cell_regrown f1
      have r2 := cell_regrown f2
      have r3 := cell_regrown f3
      have r4 := cell_regrown f4
      have r5 := cell_regrown f5
      have r6 := cell_regrown f6
      have r7 := cell_regrown f7
      clear d0 d1 d2 d3 d4 d5 d6 d7 f0 f1 f2 f3 f4 f5 f6 f7
      go_upto_region 6 with fail
      refine wp_region_quiet_below (by kernel_rfl) (by kernel_rfl) ?_
      repeat (go_big_quiet_step (first | (go_at_call 164; exact EQ.out _ _)))
      refine wpQuiet_nil ?_
      intro Y hw'
      obtain ⟨⟨dq, osq⟩, hw''⟩ := hw'
      have hx : Below wr.heap.size wr Y := by rw [hw'']; exact below_regrown wr dq osq
      have KY : Hid (Below w.heap.size w Y) := KR.out.trans (hx.mono KR.out.size)
      clear hx hw'' m0 m1 m2 m3 m4 m5 m6 m7 r0 r1 r2 r3 r4 r5 r6 r7
      go_wp2_with fail
      go_roundw
      case rel => exact ⟨k + 1, by omega, by go_num, KY.out⟩
      case measure => simp [intOf]; omega
    · have hki : ¬ (k : Int) < (vs.length : Int) := by omega
      go_wp2_with fail
      go_ret
      exact ⟨rfl, KR.out⟩
end Go.Proofs.Ytfifiobcmdmefaa.Own
