/-
  Own text: laws.FnExecGrow.
-/
import Derived.Test.YtiibonnchmphcaaPk8
import Derived.Test.YtiibonnchmphcaaQRunB
import Derived.Test.YtiibonnchmphcaaQGrowMath
import Derived.Test.YtiibonnchmphcaaQDrawRun
import Derived.Test.YtiibonnchmphcaaQSameI
import Derived.Test.YtiibonnchmphcaaQExecSameI
import Derived.Test.YtiibonnchmphcaaQExecSameS
import Derived.Test.YtiibonnchmphcaaPk3
import Derived.Test.YtiibonnchmphcaaQExecDoI
import Derived.Test.YtiibonnchmphcaaPk4
import Derived.BigQuiet
import Derived.Deep.RegionHeld3
import Derived.Deep.Cut
import Derived.Deep.CutRange
namespace Go.Proofs.Ytiibonnchmphcaa.Own
open Go.RowKit
set_option linter.unusedVariables false
set_option linter.unusedSimpArgs false

theorem flat4_atG {w : World} {b : Nat} {xs : List Q4} (h : At4 w b 0 xs) (j : Nat) (v : Value) (hv : (flat4 xs)[j]? = some v) : w.cell? ((⟨b, 0, none⟩ : Addr).add j) = some v := by
  have e : (⟨b, 0, none⟩ : Addr).add j = ⟨b, j, none⟩ := by unfold Addr.add; split <;> simp_all
  have hl : j < (flat4 xs).length := (List.getElem?_eq_some_iff.1 hv).1
  rw [flat4_length] at hl
  have hk : j / 4 < xs.length := by omega
  have f := flat4_get _ (j / 4) hk
  have hx := h.2 (j / 4) hk
  rw [Nat.zero_add] at hx
  rw [e]
  have m : j % 4 = 0 ∨ j % 4 = 1 ∨ j % 4 = 2 ∨ j % 4 = 3 := by omega
  rcases m with m | m | m | m
  · rw [show j / 4 * 4 = j by omega] at f hx
    rw [hx.1, ← f.1, hv]
  · rw [show j / 4 * 4 + 1 = j by omega] at f hx
    rw [hx.2.1, ← f.2.1, hv]
  · rw [show j / 4 * 4 + 2 = j by omega] at f hx
    rw [hx.2.2.1, ← f.2.2.1, hv]
  · rw [show j / 4 * 4 + 3 = j by omega] at f hx
    rw [hx.2.2.2, ← f.2.2.2, hv]

set_option maxRecDepth 100000 in
set_option maxHeartbeats 4000000 in
theorem lawExecGrow (a : Option Addr) (n c : Nat) (a' : Option Addr) (n' c' : Nat) (w : World) (h : Bytes w w.heap.size a n) (hc : n ≤ c) (hm : c ≤ maxLen) (h' : Bytes w w.heap.size a' n') (hc' : n' ≤ c') (hm' : c' ≤ maxLen) :
    Calls Try.prog 7 #[.slice a n c, .slice a' n' c'] w fun e w' => e = .returned (.bool true) ∧ Below w.heap.size w w' := by
  have HB : Hid (Bytes w w.heap.size a n) := h
  have HM : Hid (c ≤ maxLen) := hm
  clear h h'
  unfold maxLen at hm hm'
  by_cases hn : n ≤ 1048576
  · have hd : decide ((1048576 : Int) < (n : Int)) = false := by simp; omega
    by_cases hn2 : n' ≤ 1048576
    · have hd2 : decide ((1048576 : Int) < (n' : Int)) = false := by simp; omega
      obtain ⟨m4, em, lm⟩ : ∃ m : Nat, (n' : Int) % 4 = m ∧ m < 4 := ⟨n' % 4, by simp, Nat.mod_lt _ (by omega)⟩
      go_enter Try.func7, Try.ntmps7
      go_wp2_with fail
      refine (drawExecRun a n c w HB.out hc HM.out).mono ?_
      rintro e w1 ⟨gb, bs, g, cap, xs, rfl, ⟨lb, lx⟩, ⟨x1, y1⟩, hb⟩
      have X1 : Hid (Sl w1 (some ⟨gb, 0, none⟩) bs) := .inr ⟨gb, 0, rfl, x1⟩
      have A1 : Hid (At4 w1 g 0 xs) := y1
      have Y1 : Hid (Sl4 w1 (some ⟨g, 0, none⟩) xs) := .inr ⟨g, 0, rfl, y1⟩
      have B1 : Hid (Below w.heap.size w w1) := hb
      have nx : xs.length ≤ 2 ^ 40 := by omega
      have nb : bs.length ≤ 2 ^ 40 := by omega
      clear x1 y1 hb
      obtain ⟨ys, hys⟩ : ∃ ys : List Q4, ys = xs ++ [(1, 3, (m4 : Int), 0)] := ⟨_, rfl⟩
      have HY : Hid (ys = xs ++ [(1, 3, (m4 : Int), 0)]) := hys
      have LY : Hid (ys.length = xs.length + 1) := by show _ = _; rw [hys]; simp
      have IR : Hid (∀ W, Below w1.heap.size w1 W → Calls Try.prog 16 #[.slice (some ⟨gb, 0, none⟩) bs.length 4, .slice (some ⟨g, 0, none⟩) xs.length cap] W fun e w' => RunPost (execRun bs xs) W.heap.size e w' ∧ Below W.heap.size W w') := fun W hb => implRun _ _ 4 cap bs xs W (X1.out.below hb) (Y1.out.below hb) lb nx
      have SR : Hid (∀ W, Below w1.heap.size w1 W → Calls Try.prog 18 #[.slice (some ⟨gb, 0, none⟩) bs.length 4, .slice (some ⟨g, 0, none⟩) xs.length cap] W fun e w' => RunPost (execRun bs xs) W.heap.size e w' ∧ Below W.heap.size W w') := fun W hb => specRun _ _ 4 cap bs xs W (X1.out.below hb) (Y1.out.below hb) nb nx
      have I2 : Hid (∀ (ab : Option Addr) (cb : Nat) (W : World), Below w1.heap.size w1 W → Sl4 W ab ys → Calls Try.prog 16 #[.slice (some ⟨gb, 0, none⟩) bs.length 4, .slice ab ys.length cb] W fun e w' => RunPost (execRun bs ys) W.heap.size e w' ∧ Below W.heap.size W w') := fun ab cb W hb hs => implRun _ _ 4 cb bs ys W (X1.out.below hb) hs lb (by have := LY.out; omega)
      have f4 := execRun_four bs xs
      have g4 := execRun_four bs ys
      have NK : Hid ((execRun bs xs).code = 0 → boxOk bs = true) := code_ok
      have GR : Hid ((execRun bs xs).code = 0 → xs.length < 10 → (execRun bs xs).reads.length ≤ (execRun bs ys).reads.length ∧ (execRun bs ys).reads.length ≤ (execRun bs xs).reads.length + 1 ∧ (execRun bs ys).puts.length = (execRun bs xs).puts.length ∧ (∀ i, i < (execRun bs xs).reads.length → (execRun bs ys).reads.getD i (0, 0) = (execRun bs xs).reads.getD i (0, 0))) := fun h1 h2 => by rw [hys]; exact grow_load h1 h2 lm
      clear hys
      generalize execRun bs xs = o at IR SR f4 NK GR
      generalize execRun bs ys = o' at I2 g4 GR
      obtain ⟨f1, f2⟩ := f4
      obtain ⟨g1', g2'⟩ := g4
      have ES : Hid (∀ (r1 r2 s1 s2 : Option Addr) (k1 k2 l1 l2 : Nat) (W : World), Sl W r1 o.reads → Sl W r2 o.puts → Sl W s1 o.reads → Sl W s2 o.puts → Calls Try.prog 17 #[.agg #[.slice r1 o.reads.length k1, .slice r2 o.puts.length k2, .int .i64 o.val, .int .i64 o.code], .agg #[.slice s1 o.reads.length l1, .slice s2 o.puts.length l2, .int .i64 o.val, .int .i64 o.code]] W fun e w' => e = .returned (.bool true) ∧ Below W.heap.size W w') := fun r1 r2 s1 s2 k1 k2 l1 l2 W h1 h2 h3 h4 => by
        have := implExecSame r1 r2 s1 s2 k1 k2 l1 l2 o.reads o.puts o.reads o.puts o.val o.code o.val o.code W h1 h2 h3 h4 (by omega) (by omega) (by omega) (by omega)
        rw [show sameRun o.reads o.puts o.reads o.puts o.val o.code o.val o.code = true by simp [sameRun]] at this
        exact this
      go_wp2_with fail
      refine Calls.mono (IR.out w1 (Below.refl _ _)) ?_
      rintro e w5 ⟨hp5, b5⟩
      obtain ⟨g1, e1, g2, e2, rfl, hr5⟩ := hp5.open
      obtain ⟨X, hX⟩ : ∃ X, X = w5.alloc (.cells #[.slice g1 o.reads.length e1, .slice g2 o.puts.length e2, .int .i64 o.val, .int .i64 o.code] 30) := ⟨_, rfl⟩
      have bX : Below w5.heap.size w5 X := by rw [hX]; exact below_new _ _
      have CX : Hid (C4 X w5.heap.size (.slice g1 o.reads.length e1) (.slice g2 o.puts.length e2) (.int .i64 o.val) (.int .i64 o.code)) := by show C4 _ _ _ _ _ _; rw [hX]; exact C4.new _ _ _ _ _ _
      have RX : Hid (RunB o w1.heap.size X g1 g2) := hr5.below bX
      have KX : Hid (Below w1.heap.size w1 X) := b5.trans (bX.mono b5.size)
      have HX : Hid (X = _) := hX
      clear hX bX hr5 b5 hp5
      obtain ⟨_, q0, q1, q2, q3⟩ := CX.out
      go_upto_region 5 with fail
      rw [← HX.out]
      -- the two calls, and what they leave of the run's four cells
      have SRX : Hid (∀ u, Below X.heap.size X u → Calls Try.prog 18 #[.slice (some ⟨gb, 0, none⟩) bs.length 4, .slice (some ⟨g, 0, none⟩) xs.length cap] u fun e w' => ∃ s1 l1 s2 l2, e = .returned (.agg #[.slice s1 o.reads.length l1, .slice s2 o.puts.length l2, .int .i64 o.val, .int .i64 o.code]) ∧ Hid (RunB o w1.heap.size w' g1 g2 ∧ RunB o u.heap.size w' s1 s2 ∧ Below X.heap.size X w') ∧ (w'.cell? ⟨w5.heap.size, 0, none⟩ = some (.slice g1 o.reads.length e1) ∧ w'.cell? ⟨w5.heap.size, 1, none⟩ = some (.slice g2 o.puts.length e2) ∧ w'.cell? ⟨w5.heap.size, 2, none⟩ = some (.int .i64 o.val) ∧ w'.cell? ⟨w5.heap.size, 3, none⟩ = some (.int .i64 o.code))) := fun u hu => by
        refine Calls.mono (SR.out u (KX.out.trans (hu.mono KX.out.size))) ?_
        rintro e w' ⟨hp, hb⟩
        obtain ⟨s1, l1, s2, l2, rfl, hr⟩ := hp.open
        have b' : Below X.heap.size X w' := hu.trans (hb.mono hu.size)
        exact ⟨s1, l1, s2, l2, rfl, ⟨RX.out.below b', hr, b'⟩, (CX.out.below b').2⟩
      have ESX : Hid (∀ (s1 s2 : Option Addr) (l1 l2 B : Nat) (u : World), RunB o w1.heap.size u g1 g2 ∧ RunB o B u s1 s2 ∧ Below X.heap.size X u → Calls Try.prog 17 #[.agg #[.slice g1 o.reads.length e1, .slice g2 o.puts.length e2, .int .i64 o.val, .int .i64 o.code], .agg #[.slice s1 o.reads.length l1, .slice s2 o.puts.length l2, .int .i64 o.val, .int .i64 o.code]] u fun e w' => e = .returned (.bool true) ∧ Hid (Below X.heap.size X w') ∧ (w'.cell? ⟨w5.heap.size, 0, none⟩ = some (.slice g1 o.reads.length e1) ∧ w'.cell? ⟨w5.heap.size, 1, none⟩ = some (.slice g2 o.puts.length e2) ∧ w'.cell? ⟨w5.heap.size, 2, none⟩ = some (.int .i64 o.val) ∧ w'.cell? ⟨w5.heap.size, 3, none⟩ = some (.int .i64 o.code))) := fun s1 s2 l1 l2 B u ⟨h1, h2, h3⟩ => by
        refine Calls.mono (ES.out g1 g2 s1 s2 e1 e2 l1 l2 u h1.reads.sl h1.puts.sl h2.reads.sl h2.puts.sl) ?_
        rintro e w' ⟨rfl, hb⟩
        have b' : Below X.heap.size X w' := h3.trans (hb.mono h3.size)
        exact ⟨rfl, b', (CX.out.below b').2⟩
      obtain ⟨stop, hstop⟩ : ∃ b, b = (o.code != 0 || decide ((10 : Int) ≤ (xs.length : Int))) := ⟨_, rfl⟩
      have ST : Hid (stop = (o.code != 0 || decide ((10 : Int) ≤ (xs.length : Int)))) := hstop
      clear hstop
      go_cut [42] from 27 to 42 (fun x wx => x = .bool stop ∧ Below X.heap.size X wx)
      case first =>
        have BB : Hid (Below X.heap.size X X) := Below.refl _ _
        cases hcd : (o.code != 0) with
        | true =>
          refine wp_region_held_drew (S := (fun w' : World => w'.cell? ⟨w5.heap.size, 0, none⟩ = some (.slice g1 o.reads.length e1) ∧ w'.cell? ⟨w5.heap.size, 1, none⟩ = some (.slice g2 o.puts.length e2) ∧ w'.cell? ⟨w5.heap.size, 2, none⟩ = some (.int .i64 o.val) ∧ w'.cell? ⟨w5.heap.size, 3, none⟩ = some (.int .i64 o.code))) (by kernel_rfl) ⟨q0, q1, q2, q3⟩ (fun hHeld => ?_)
          refine wpAnyH_take (i := 0) (v := ?v0) rfl (by kernel_rfl) (by kernel_rfl) (by kernel_rfl) (fun _ _ _ h => h) (Or.inl ⟨by rfl, ?y0⟩) (by assumption) ?r0
          case y0 =>
            intro w' hSw
            try dsimp only at hSw
            go_simp
            try with_reducible rfl
          simp only [Act.put, List.getElem_toArray, List.getElem_cons_succ, List.getElem_cons_zero, List.setIfInBounds_toArray, List.set_cons_zero, List.set_cons_succ]
          refine wpAnyH_take (i := 1) (v := ?v1) rfl (by kernel_rfl) (by kernel_rfl) (by kernel_rfl) (fun _ _ _ h => h) (Or.inl ⟨by rfl, ?y1⟩) (by assumption) ?r1
          case y1 =>
            intro w' hSw
            try dsimp only at hSw
            go_simp
            try with_reducible rfl
          simp only [Act.put, List.getElem_toArray, List.getElem_cons_succ, List.getElem_cons_zero, List.setIfInBounds_toArray, List.set_cons_zero, List.set_cons_succ]
          refine wpAnyH_take (i := 2) (v := ?v2) rfl (by kernel_rfl) (by kernel_rfl) (by kernel_rfl) (fun _ _ _ h => h) (Or.inl ⟨by rfl, ?y2⟩) (by assumption) ?r2
          case y2 =>
            intro w' hSw
            try dsimp only at hSw
            go_simp
            try with_reducible rfl
          simp only [Act.put, List.getElem_toArray, List.getElem_cons_succ, List.getElem_cons_zero, List.setIfInBounds_toArray, List.set_cons_zero, List.set_cons_succ]
          refine wpAnyH_ready (rs := [3]) (by kernel_rfl) (by simp) ?_
          refine AllReadyH.cons rfl (fun K hK => ?_) AllReadyH.nil
          go_simp
          refine Calls.mono (SRX.out _ (below_drewN BB.out 1)) ?_
          rintro e w6 ⟨s1, l1, s2, l2, rfl, H6, hS6⟩
          refine hK.out _ _ hS6 (fun hHeld2 => ?_)
          clear hK K hHeld hS6
          refine wpAnyH_ready (rs := [4]) (by kernel_rfl) (by simp) ?_
          refine AllReadyH.cons rfl (fun K hK => ?_) AllReadyH.nil
          go_simp
          refine Calls.mono (ESX.out _ _ _ _ _ _ H6.out) ?_
          rintro e w7 ⟨rfl, H7, hS7⟩
          refine hK.out _ _ hS7 (fun hHeld3 => ?_)
          clear hK K hHeld2 hS7
          refine wpAnyH_take (i := 5) (v := ?v5) rfl (by kernel_rfl) (by kernel_rfl) (by kernel_rfl) (fun _ _ _ h => h) (Or.inl ⟨by rfl, ?y5⟩) (by assumption) ?r5
          case y5 =>
            intro w' hSw
            try dsimp only at hSw
            go_simp
            try with_reducible rfl
          simp only [Act.put, List.getElem_toArray, List.getElem_cons_succ, List.getElem_cons_zero, List.setIfInBounds_toArray, List.set_cons_zero, List.set_cons_succ]
          refine wpAnyH_take (i := 6) (v := ?v6) rfl (by kernel_rfl) (by kernel_rfl) (by kernel_rfl) (fun _ _ _ h => h) (Or.inl ⟨by rfl, ?y6⟩) (by assumption) ?r6
          case y6 =>
            intro w' hSw
            try dsimp only at hSw
            go_simp
            try with_reducible rfl
          simp only [Act.put, List.getElem_toArray, List.getElem_cons_succ, List.getElem_cons_zero, List.setIfInBounds_toArray, List.set_cons_zero, List.set_cons_succ]
          refine wpAnyH_take (i := 7) (v := ?v7) rfl (by kernel_rfl) (by kernel_rfl) (by kernel_rfl) (fun _ _ _ h => h) (Or.inl ⟨by rfl, ?y7⟩) (by assumption) ?r7
          case y7 =>
            intro w' hSw
            try dsimp only at hSw
            go_simp
            try with_reducible rfl
          simp only [Act.put, List.getElem_toArray, List.getElem_cons_succ, List.getElem_cons_zero, List.setIfInBounds_toArray, List.set_cons_zero, List.set_cons_succ]
          refine wpAnyH_take (i := 8) (v := ?v8) rfl (by kernel_rfl) (by kernel_rfl) (by kernel_rfl) (fun _ _ _ h => h) (Or.inl ⟨by rfl, ?y8⟩) (by assumption) ?r8
          case y8 =>
            intro w' hSw
            try dsimp only at hSw
            go_simp
            try with_reducible rfl
          simp only [Act.put, List.getElem_toArray, List.getElem_cons_succ, List.getElem_cons_zero, List.setIfInBounds_toArray, List.set_cons_zero, List.set_cons_succ]
          refine wpAnyH_take (i := 9) (v := ?v9) rfl (by kernel_rfl) (by kernel_rfl) (by kernel_rfl) (fun _ _ _ h => h) (Or.inl ⟨by rfl, ?y9⟩) (by assumption) ?r9
          case y9 =>
            intro w' hSw
            try dsimp only at hSw
            go_simp
            try with_reducible rfl
          simp only [Act.put, List.getElem_toArray, List.getElem_cons_succ, List.getElem_cons_zero, List.setIfInBounds_toArray, List.set_cons_zero, List.set_cons_succ]
          refine wpAnyH_take (i := 10) (v := ?v10) rfl (by kernel_rfl) (by kernel_rfl) (by kernel_rfl) (fun _ _ _ h => h) (Or.inl ⟨by rfl, ?y10⟩) (by assumption) ?r10
          case y10 =>
            intro w' hSw
            try dsimp only at hSw
            go_simp
            try with_reducible rfl
          simp only [Act.put, List.getElem_toArray, List.getElem_cons_succ, List.getElem_cons_zero, List.setIfInBounds_toArray, List.set_cons_zero, List.set_cons_succ]
          refine wpAnyH_take (i := 11) (v := ?v11) rfl (by kernel_rfl) (by kernel_rfl) (by kernel_rfl) (fun _ _ _ h => h) (Or.inl ⟨by rfl, ?y11⟩) (by assumption) ?r11
          case y11 =>
            intro w' hSw
            try dsimp only at hSw
            go_simp
            try with_reducible rfl
          simp only [Act.put, List.getElem_toArray, List.getElem_cons_succ, List.getElem_cons_zero, List.setIfInBounds_toArray, List.set_cons_zero, List.set_cons_succ]
          refine wpAnyH_take (i := 12) (v := undef) rfl (by kernel_rfl) (by kernel_rfl) (by kernel_rfl) (fun _ _ _ h => h) (Or.inr ⟨by rfl, rfl⟩) (by assumption) ?_
          simp only [Act.put, List.getElem_toArray, List.getElem_cons_succ, List.getElem_cons_zero, List.setIfInBounds_toArray, List.set_cons_zero, List.set_cons_succ]
          refine wpAnyH_take (i := 13) (v := undef) rfl (by kernel_rfl) (by kernel_rfl) (by kernel_rfl) (fun _ _ _ h => h) (Or.inr ⟨by rfl, rfl⟩) (by assumption) ?_
          simp only [Act.put, List.getElem_toArray, List.getElem_cons_succ, List.getElem_cons_zero, List.setIfInBounds_toArray, List.set_cons_zero, List.set_cons_succ]
          refine wpAnyH_take (i := 14) (v := undef) rfl (by kernel_rfl) (by kernel_rfl) (by kernel_rfl) (fun _ _ _ h => h) (Or.inr ⟨by rfl, rfl⟩) (by assumption) ?_
          simp only [Act.put, List.getElem_toArray, List.getElem_cons_succ, List.getElem_cons_zero, List.setIfInBounds_toArray, List.set_cons_zero, List.set_cons_succ]
          refine wpAnyH_take (i := 15) (v := ?v15) rfl (by kernel_rfl) (by kernel_rfl) (by kernel_rfl) (fun _ _ _ h => h) (Or.inl ⟨by rfl, ?y15⟩) (by assumption) ?r15
          case y15 =>
            intro w' hSw
            try dsimp only at hSw
            go_simp
            try with_reducible rfl
          simp only [Act.put, List.getElem_toArray, List.getElem_cons_succ, List.getElem_cons_zero, List.setIfInBounds_toArray, List.set_cons_zero, List.set_cons_succ]
          refine wpAnyH_done (by kernel_rfl) ?_ _
          go_wp2_with fail
          go_meet
          exact ⟨by rw [ST.out, hcd]; rfl, H7.out⟩
        | false =>
          go_region_held3 (fun w' : World => w'.cell? ⟨w5.heap.size, 0, none⟩ = some (.slice g1 o.reads.length e1) ∧ w'.cell? ⟨w5.heap.size, 1, none⟩ = some (.slice g2 o.puts.length e2) ∧ w'.cell? ⟨w5.heap.size, 2, none⟩ = some (.int .i64 o.val) ∧ w'.cell? ⟨w5.heap.size, 3, none⟩ = some (.int .i64 o.code)) (first | assumption | go_keep) (first | (go_at_call 18; refine Calls.mono (SRX.out _ (below_drewN BB.out 1)) ?_; rintro e w6 ⟨s1, l1, s2, l2, rfl, H6, hS6⟩) | (go_at_call 17; refine Calls.mono (ESX.out _ _ _ _ _ _ H6.out) ?_; rintro e w7 ⟨rfl, H7, hS7⟩))
          go_wp2_with fail
          go_meet
          exact ⟨by rw [ST.out, hcd]; rfl, H7.out⟩
      case rest =>
        rename World => V
        obtain ⟨rfl, hB⟩ := hcut
        have BV : Hid (Below X.heap.size X V) := hB
        have CV : Hid (C4 V w5.heap.size (.slice g1 o.reads.length e1) (.slice g2 o.puts.length e2) (.int .i64 o.val) (.int .i64 o.code)) := CX.out.below hB
        have RV : Hid (RunB o w1.heap.size V g1 g2) := RX.out.below hB
        have KV : Hid (Below w1.heap.size w1 V) := KX.out.trans (hB.mono KX.out.size)
        obtain ⟨_, z0, z1, z2, z3⟩ := CV.out
        clear hB q0 q1 q2 q3
        cases stop with
        | true =>
          go_upto_region 6 with fail
          go_region_held3 (fun w' : World => w'.cell? ⟨w5.heap.size, 0, none⟩ = some (.slice g1 o.reads.length e1) ∧ w'.cell? ⟨w5.heap.size, 1, none⟩ = some (.slice g2 o.puts.length e2) ∧ w'.cell? ⟨w5.heap.size, 2, none⟩ = some (.int .i64 o.val) ∧ w'.cell? ⟨w5.heap.size, 3, none⟩ = some (.int .i64 o.code)) (first | assumption | go_keep) (first | (go_at_call 18; refine Calls.mono (SRX.out _ (below_drewN BV.out 1)) ?_; rintro e w6 ⟨s1, l1, s2, l2, rfl, H6, hS6⟩) | (go_at_call 17; refine Calls.mono (ESX.out _ _ _ _ _ _ H6.out) ?_; rintro e w7 ⟨rfl, H7, hS7⟩))
          go_wp2_with fail
          go_ret
          exact ⟨rfl, B1.out.trans ((KX.out.trans (H7.out.mono KX.out.size)).mono B1.out.size)⟩
        | false =>
          have HS := ST.out.symm
          simp only [Bool.or_eq_false_iff, bne_eq_false_iff_eq, decide_eq_false_iff_not] at HS
          have HG : Hid (_ ∧ _) := GR.out HS.1 (by omega)
          have NB : Hid (boxOk bs = true) := NK.out HS.1
          have lx9 : Hid (xs.length < 10) := by show _ < _; omega
          have d1 : decide ((o'.reads.length : Int) < (o.reads.length : Int)) = false := by have := HG.out.1; simp; omega
          have d2 : decide ((o.reads.length : Int) + 1 < (o'.reads.length : Int)) = false := by have := HG.out.2.1; simp; omega
          have d3 : ((o'.puts.length : Int) != (o.puts.length : Int)) = false := by have := HG.out.2.2.1; simp; omega
          have le1 := HG.out.1
          clear HS
          obtain ⟨i0, hi, hz0, hz1, hz2⟩ := info_parts infoInsD
          have I0 : Hid (Try.prog.info? 53 = some i0 ∧ i0.zero = some (.agg #[.int .i64 0, .int .i64 0, .int .i64 0, .int .i64 0]) ∧ i0.size = 4 ∧ i0.bytes = 32) := ⟨hi, hz0, hz1, hz2⟩
          clear hi hz0 hz1 hz2
          have A4 : Hid (At4 V g 0 xs) := A1.out.below KV.out
          have M0 : Hid (0 + xs.length ≤ maxLen) := by show _ ≤ _; unfold maxLen; omega
          have M1 : Hid (xs.length + 1 ≤ maxLen) := by show _ ≤ _; unfold maxLen; omega
          have M2 : Hid ((0 + xs.length) * 32 ≤ 140737488355328) := by show _ ≤ _; omega
          have M3 : Hid ((xs.length + 1) * 32 ≤ 140737488355328) := by show _ ≤ _; omega
          clear z0 z1 z2 z3
          go_wp2_with (at_builtin; refine wpList_append_own _ rfl (.tmp 49) (.tmp 50) 24 rfl V.heap.size 53 i0 (.agg #[.int .i64 0, .int .i64 0, .int .i64 0, .int .i64 0]) 4 32 Try.underlying24 I0.out.1 I0.out.2.1 I0.out.2.2.1 I0.out.2.2.2 rfl (by decide) (.slice (some ⟨V.heap.size, 0, none⟩) 0 0) 0 [] rfl (own_emptyQ V V.heap.size rfl) ⟨g, 0, none⟩ xs.length cap (flat4 xs) rfl (flat4_length xs) (flat4_atG (A4.out.below (below_new _ _))) (flat4_one _) M0.out M2.out (by rw [size_new]; omega) ?_)
          intro v1 v5 hown hgr _
          have O5 : Hid (v5.ownsRow V.heap.size 53 4 v1 xs.length (flat4 xs)) := by
            show v5.ownsRow _ _ _ _ _ _
            simpa using hown
          have B5 : Hid (Below V.heap.size V v5) := Below.grown (below_new _ _) hgr (by rw [size_new]; omega) (fun k hk => by simp only [Value.ownBlock] at hk; injection hk with hk; omega)
          clear hown hgr
          go_wp2_with (at_builtin; refine wpList_append_own _ rfl (.tmp 51) (.tmp 56) 24 rfl V.heap.size 53 i0 (.agg #[.int .i64 0, .int .i64 0, .int .i64 0, .int .i64 0]) 4 32 Try.underlying24 I0.out.1 I0.out.2.1 I0.out.2.2.1 I0.out.2.2.2 rfl (by decide) v1 xs.length (flat4 xs) rfl (World.ownsRow.kept O5.out (World.grownBy_alloc _ _ none) (by cases v1.ownBlock <;> simp)) ⟨v5.heap.size, 0, none⟩ 1 1 [.int .i64 1, .int .i64 3, .int .i64 (m4 : Int), .int .i64 0] rfl rfl (four_new _ _ _ _ _) (by simp [Value.oneCell']) M1.out M3.out (by rw [size_new]; have := B5.out.size; omega) ?_)
          intro v2 w6 hown hgr _
          have O6 : Hid (OwnQ w6 V.heap.size v2 ys) := by
            show OwnQ _ _ _ _
            unfold OwnQ
            rw [HY.out, List.length_append, flat4_snoc]
            exact hown
          have B6 : Hid (Below V.heap.size V w6) := Below.grown (B5.out.alloc B5.out.size _) hgr (by rw [size_new]; have := B5.out.size; omega) (fun k hk => (O5.out.lt k hk).1)
          clear hown hgr
          obtain ⟨ab, capb, rfl, slb, hcb⟩ := O6.out.open
          have SB : Hid (Sl4 w6 ab ys) := slb
          have K6 : Hid (Below w1.heap.size w1 w6) := KV.out.trans (B6.out.mono KV.out.size)
          clear slb hcb O6 O5
          go_wp2_with fail
          refine Calls.mono (I2.out ab capb w6 K6.out SB.out) ?_
          rintro e w7 ⟨hp7, b7⟩
          obtain ⟨s1, l1, s2, l2, rfl, hr7⟩ := hp7.open
          obtain ⟨Y, hY⟩ : ∃ Y, Y = w7.alloc (.cells #[.slice s1 o'.reads.length l1, .slice s2 o'.puts.length l2, .int .i64 o'.val, .int .i64 o'.code] 30) := ⟨_, rfl⟩
          have bY : Below w7.heap.size w7 Y := by rw [hY]; exact below_new _ _
          have CY : Hid (C4 Y w7.heap.size (.slice s1 o'.reads.length l1) (.slice s2 o'.puts.length l2) (.int .i64 o'.val) (.int .i64 o'.code)) := by show C4 _ _ _ _ _ _; rw [hY]; exact C4.new _ _ _ _ _ _
          have RY : Hid (RunB o' w6.heap.size Y s1 s2) := hr7.below bY
          have b7Y : Below w6.heap.size w6 Y := b7.trans (bY.mono b7.size)
          have KY : Hid (Below w1.heap.size w1 Y) := K6.out.trans (b7Y.mono K6.out.size)
          have bVY : Below V.heap.size V Y := B6.out.trans (b7Y.mono B6.out.size)
          have CZ : Hid (C4 Y w5.heap.size (.slice g1 o.reads.length e1) (.slice g2 o.puts.length e2) (.int .i64 o.val) (.int .i64 o.code)) := CV.out.below bVY
          have RZ : Hid (RunB o w1.heap.size Y g1 g2) := RV.out.below bVY
          have HYY : Hid (Y = _) := hY
          clear hY bY hr7 b7 hp7 b7Y bVY
          go_upto_region 8 with fail
          rw [← HYY.out]
          obtain ⟨_, q0, q1, q2, q3⟩ := CY.out
          obtain ⟨_, z0, z1, z2, z3⟩ := CZ.out
          go_wp2_with fail
          clear q0 q1 q2 q3 z0 z1 z2 z3 d1 d2 d3 le1
          go_loopw [9] (fun i wr => ∃ k : Nat, k ≤ o.reads.length ∧ i = .int .i64 k ∧ Below Y.heap.size Y wr) (fun i _ => o.reads.length - (intOf i).toNat)
          case atStart => exact ⟨0, Nat.zero_le _, rfl, Below.refl _ _⟩
          case round =>
            obtain ⟨k, hk, rfl, hB⟩ := hrel
            have BR : Hid (Below Y.heap.size Y wr) := hB
            obtain ⟨_, q0, q1, q2, q3⟩ := CY.out.below hB
            obtain ⟨_, z0, z1, z2, z3⟩ := CZ.out.below hB
            clear hB q1 q2 q3 z1 z2 z3
            by_cases hlt : k < o.reads.length
            · have hlt2 : k < o'.reads.length := Nat.lt_of_lt_of_le hlt HG.out.1
              have hki : (k : Int) < (o.reads.length : Int) := by omega
              have hki2 : (k : Int) < (o'.reads.length : Int) := by omega
              rcases RZ.out.reads.sl.below BR.out with h | ⟨b1, o1, rfl, h1⟩
              · rw [h] at hlt; simp at hlt
              rcases RY.out.reads.sl.below BR.out with h | ⟨b2, o2, rfl, h2⟩
              · rw [h] at hlt2; simp at hlt2
              obtain ⟨ca, cb⟩ := h1.2 k hlt
              obtain ⟨da, db⟩ := h2.2 k hlt2
              rw [HG.out.2.2.2 k hlt] at da db
              clear h1 h2
              generalize o.reads.getD k (0, 0) = p at ca cb da db
              obtain ⟨p1, p2⟩ := p
              have hne := fun w => neqRead p1 p2 p1 p2 w
              rw [show eq2 (p1, p2) (p1, p2) = true from (eq2_iff _ _).2 rfl] at hne
              go_upto_region 13 with fail
              go_quiet (fail)
              go_wp2
              go_roundw
              case rel => exact ⟨k + 1, by omega, by go_num, below_drewN BR.out _⟩
              case measure => simp [intOf]; omega
            · have hki : ¬ (k : Int) < (o.reads.length : Int) := by omega
              have KR : Hid (Below w1.heap.size w1 wr) := KY.out.trans (BR.out.mono KY.out.size)
              have IN : Hid (∀ W, Below w1.heap.size w1 W → Calls Try.prog 16 #[.slice (some ⟨gb, 0, none⟩) bs.length 4, .slice none 0 0] W fun e w' => (∃ r1 k1 r2 k2, e = .returned (.agg #[.slice r1 0 k1, .slice r2 0 k2, .int .i64 0, .int .i64 0])) ∧ Below W.heap.size W w') := fun W hb => by
                have := implRun (some ⟨gb, 0, none⟩) none 4 0 bs [] W (X1.out.below hb) (.inl rfl) lb (by simp)
                rw [execRun_nil NB.out] at this
                refine Calls.mono this ?_
                rintro e w' ⟨hp, hb'⟩
                obtain ⟨r1, k1, r2, k2, he, _⟩ := hp.open
                exact ⟨⟨r1, k1, r2, k2, he⟩, hb'⟩
              have EN : Hid (∀ (r1 r2 : Option Addr) (k1 k2 : Nat) (W : World), Calls Try.prog 17 #[.agg #[.slice r1 0 k1, .slice r2 0 k2, .int .i64 0, .int .i64 0], .agg #[.slice none 0 0, .slice none 0 0, .int .i64 0, .int .i64 0]] W fun e w' => e = .returned (.bool true) ∧ Below W.heap.size W w') := fun r1 r2 k1 k2 W =>
                implExecSame r1 r2 none none k1 k2 0 0 [] [] [] [] 0 0 0 0 W (.inl rfl) (.inl rfl) (.inl rfl) (.inl rfl) (by simp) (by simp) (by simp) (by simp)
              have FN : Hid (∀ (r1 r2 : Option Addr) (k1 k2 : Nat) (W : World), Below w1.heap.size w1 W → Calls Try.prog 24 #[.slice (some ⟨gb, 0, none⟩) bs.length 4, .agg #[.slice r1 0 k1, .slice r2 0 k2, .int .i64 0, .int .i64 0]] W fun e w' => e = .returned (.bool true) ∧ Below W.heap.size W w') := fun r1 r2 k1 k2 W hb => by
                have := implExecFresh (some ⟨gb, 0, none⟩) 4 bs r1 r2 k1 k2 [] [] 0 0 W (X1.out.below hb) lb (.inl rfl) (.inl rfl) (by simp) (by simp)
                rw [execFresh_nil NB.out] at this
                exact this
              have DN : Hid (∀ (r1 r2 : Option Addr) (k1 k2 : Nat) (W : World), Below w1.heap.size w1 W → Calls Try.prog 26 #[.slice (some ⟨gb, 0, none⟩) bs.length 4, .agg #[.slice r1 0 k1, .slice r2 0 k2, .int .i64 0, .int .i64 0]] W fun e w' => ∃ ad cap, e = .returned (.slice ad bs.length cap) ∧ bs.length ≤ cap ∧ OwnB w' W.heap.size ad bs ∧ Below W.heap.size W w') := fun r1 r2 k1 k2 W hb => by
                have := implExecDo (some ⟨gb, 0, none⟩) 4 bs r1 r2 k1 k2 [] [] 0 0 W (X1.out.below hb) lb (.inl rfl) (.inl rfl) (by simp) (by simp)
                rw [execDo_nil NB.out] at this
                exact this
              have er : (bs == bs) = true := by simp
              clear q0
              go_wp2_with fail
              refine Calls.mono (IN.out wr KR.out) ?_
              rintro e w8 ⟨⟨r1, k1, r2, k2, rfl⟩, b8⟩
              obtain ⟨Z, hZ⟩ : ∃ Z, Z = w8.alloc (.cells #[.slice r1 0 k1, .slice r2 0 k2, .int .i64 0, .int .i64 0] 30) := ⟨_, rfl⟩
              have bZ : Below w8.heap.size w8 Z := by rw [hZ]; exact below_new _ _
              have CN : Hid (C4 Z w8.heap.size (.slice r1 0 k1) (.slice r2 0 k2) (.int .i64 0) (.int .i64 0)) := by show C4 _ _ _ _ _ _; rw [hZ]; exact C4.new _ _ _ _ _ _
              have KZ : Hid (Below w1.heap.size w1 Z) := KR.out.trans ((b8.trans (bZ.mono b8.size)).mono KR.out.size)
              have HZ : Hid (Z = _) := hZ
              clear hZ bZ b8 z0
              go_upto_region 16 with fail
              rw [← HZ.out]
              obtain ⟨_, q0, q1, q2, q3⟩ := CN.out
              go_wp2_with fail
              refine Calls.mono (EN.out r1 r2 k1 k2 Z) ?_
              rintro e w9 ⟨rfl, b9⟩
              have K9 : Hid (Below w1.heap.size w1 w9) := KZ.out.trans (b9.mono KZ.out.size)
              have C9 : Hid (C4 w9 w8.heap.size (.slice r1 0 k1) (.slice r2 0 k2) (.int .i64 0) (.int .i64 0)) := CN.out.below b9
              clear b9 q0 q1 q2 q3
              obtain ⟨_, q0, q1, q2, q3⟩ := C9.out
              go_wp2_with fail
              refine Calls.mono (FN.out r1 r2 k1 k2 w9 K9.out) ?_
              rintro e w10 ⟨rfl, b10⟩
              have K10 : Hid (Below w1.heap.size w1 w10) := K9.out.trans (b10.mono K9.out.size)
              have C10 : Hid (C4 w10 w8.heap.size (.slice r1 0 k1) (.slice r2 0 k2) (.int .i64 0) (.int .i64 0)) := C9.out.below b10
              clear b10 q0 q1 q2 q3
              obtain ⟨_, q0, q1, q2, q3⟩ := C10.out
              go_wp2_with fail
              refine Calls.mono (DN.out r1 r2 k1 k2 w10 K10.out) ?_
              rintro e w11 ⟨ad, cp, rfl, hcp, od, b11⟩
              have O11 : Hid (OwnB w11 w10.heap.size ad bs) := od
              have K11 : Hid (Below w1.heap.size w1 w11) := K10.out.trans (b11.mono K10.out.size)
              clear b11 od q0 q1 q2 q3
              go_wp2_with fail
              refine (implSame ad _ cp 4 bs bs w11 O11.out.sl (X1.out.below K11.out) hcp lb (by omega)).mono ?_
              rintro e w12 ⟨rfl, b12⟩
              rw [er]
              have K12 : Hid (Below w1.heap.size w1 w12) := K11.out.trans (b12.mono K11.out.size)
              clear b12
              go_wp2_with fail
              go_ret
              exact ⟨rfl, B1.out.trans (K12.out.mono B1.out.size)⟩
    · have hd2 : decide ((1048576 : Int) < (n' : Int)) = true := by simp; omega
      go_enter Try.func7, Try.ntmps7
      go_wp2_with fail
      go_ret
      exact ⟨rfl, Below.refl _ _⟩
  · have hd : decide ((1048576 : Int) < (n : Int)) = true := by simp; omega
    go_enter Try.func7, Try.ntmps7
    go_wp2_with fail
    go_ret
    exact ⟨rfl, Below.refl _ _⟩
end Go.Proofs.Ytiibonnchmphcaa.Own
