/-
  Own text: laws.FnExecOwn.
-/
import Derived.Test.YtiibonnchmphcaaPk8
import Derived.Test.YtiibonnchmphcaaQRunB
import Derived.Test.YtiibonnchmphcaaQOwnMath
import Derived.Test.YtiibonnchmphcaaQLawExecGrow
import Derived.Test.YtiibonnchmphcaaQDrawRun
import Derived.Test.YtiibonnchmphcaaQSameI
import Derived.Test.YtiibonnchmphcaaQExecSameI
import Derived.Test.YtiibonnchmphcaaQExecSameS
import Derived.Test.YtiibonnchmphcaaPk3
import Derived.Test.YtiibonnchmphcaaQExecDoI
import Derived.Test.YtiibonnchmphcaaPk4
import Derived.BigQuiet
import Derived.Deep.RegionHeld3
import Derived.Deep.Cut
import Derived.Deep.CutRange
namespace Go.Proofs.Ytiibonnchmphcaa.Own
open Go.RowKit
set_option linter.unusedVariables false
set_option linter.unusedSimpArgs false

theorem less_n {p : Q4} (h : insOk p = true) (h6 : p.1 = 6) : ∃ nn : Nat, p.2.2.2 = (nn : Int) ∧ nn ≤ 10 := by
  obtain ⟨k, a, b, n⟩ := p
  simp only at h6
  subst h6
  rw [insOk_6] at h
  simp only [lessOk, Bool.and_eq_true, decide_eq_true_eq] at h
  exact ⟨n.toNat, by simp only; omega, by omega⟩

set_option maxRecDepth 100000 in
set_option maxHeartbeats 4000000 in
theorem lawExecOwn (a : Option Addr) (n c : Nat) (a' : Option Addr) (n' c' : Nat) (w : World) (h : Bytes w w.heap.size a n) (hc : n ≤ c) (hm : c ≤ maxLen) (h' : Bytes w w.heap.size a' n') (hc' : n' ≤ c') (hm' : c' ≤ maxLen) :
    Calls Try.prog 5 #[.slice a n c, .slice a' n' c'] w fun e w' => e = .returned (.bool true) ∧ Below w.heap.size w w' := by
  have HB : Hid (Bytes w w.heap.size a n) := h
  have HM : Hid (c ≤ maxLen) := hm
  clear h h'
  unfold maxLen at hm hm'
  by_cases hn : n ≤ 1048576
  · have hd : decide ((1048576 : Int) < (n : Int)) = false := by simp; omega
    by_cases hn2 : n' ≤ 1048576
    · have hd2 : decide ((1048576 : Int) < (n' : Int)) = false := by simp; omega
      obtain ⟨m4, em, lm⟩ : ∃ m : Nat, (n' : Int) % 4 = m ∧ m < 4 := ⟨n' % 4, by simp, Nat.mod_lt _ (by omega)⟩
      obtain ⟨mv, emv, lmv⟩ : ∃ m : Nat, (n' : Int) % 1000 = m ∧ m < 1000 := ⟨n' % 1000, by simp, Nat.mod_lt _ (by omega)⟩
      have VOK : Hid (numOk (mv : Int) = true) := by show _ = true; simp [numOk]; omega
      go_enter Try.func5, Try.ntmps5
      go_wp2_with fail
      refine (drawExecRun a n c w HB.out hc HM.out).mono ?_
      rintro e w1 ⟨gb, bs, g, cap, xs, rfl, ⟨lb, lx⟩, ⟨x1, y1⟩, hb⟩
      have X1 : Hid (Sl w1 (some ⟨gb, 0, none⟩) bs) := .inr ⟨gb, 0, rfl, x1⟩
      have A1 : Hid (At4 w1 g 0 xs) := y1
      have Y1 : Hid (Sl4 w1 (some ⟨g, 0, none⟩) xs) := .inr ⟨g, 0, rfl, y1⟩
      have B1 : Hid (Below w.heap.size w w1) := hb
      have nx : xs.length ≤ 2 ^ 40 := by omega
      have nb : bs.length ≤ 2 ^ 40 := by omega
      clear x1 y1 hb
      obtain ⟨ys, hys⟩ : ∃ ys : List Q4, ys = xs ++ [(3, 1, 0, (mv : Int)), (2, (m4 : Int), 1, 0), (1, 0, (m4 : Int), 0)] := ⟨_, rfl⟩
      obtain ⟨zs, hzs⟩ : ∃ zs : List Q4, zs = xs ++ [(7, 0, 0, 0)] := ⟨_, rfl⟩
      have HY : Hid (ys = xs ++ [(3, 1, 0, (mv : Int)), (2, (m4 : Int), 1, 0), (1, 0, (m4 : Int), 0)]) := hys
      have HZ : Hid (zs = xs ++ [(7, 0, 0, 0)]) := hzs
      have LY : Hid (ys.length = xs.length + 3) := by show _ = _; rw [hys]; simp
      have LZ : Hid (zs.length = xs.length + 1) := by show _ = _; rw [hzs]; simp
      have IR : Hid (∀ W, Below w1.heap.size w1 W → Calls Try.prog 16 #[.slice (some ⟨gb, 0, none⟩) bs.length 4, .slice (some ⟨g, 0, none⟩) xs.length cap] W fun e w' => RunPost (execRun bs xs) W.heap.size e w' ∧ Below W.heap.size W w') := fun W hb => implRun _ _ 4 cap bs xs W (X1.out.below hb) (Y1.out.below hb) lb nx
      have SR : Hid (∀ W, Below w1.heap.size w1 W → Calls Try.prog 18 #[.slice (some ⟨gb, 0, none⟩) bs.length 4, .slice (some ⟨g, 0, none⟩) xs.length cap] W fun e w' => RunPost (execRun bs xs) W.heap.size e w' ∧ Below W.heap.size W w') := fun W hb => specRun _ _ 4 cap bs xs W (X1.out.below hb) (Y1.out.below hb) nb nx
      have I2 : Hid (∀ (ab : Option Addr) (cb : Nat) (W : World), Below w1.heap.size w1 W → Sl4 W ab ys → Calls Try.prog 16 #[.slice (some ⟨gb, 0, none⟩) bs.length 4, .slice ab ys.length cb] W fun e w' => RunPost (execRun bs ys) W.heap.size e w' ∧ Below W.heap.size W w') := fun ab cb W hb hs => implRun _ _ 4 cb bs ys W (X1.out.below hb) hs lb (by have := LY.out; omega)
      have I3 : Hid (∀ (ab : Option Addr) (cb : Nat) (W : World), Below w1.heap.size w1 W → Sl4 W ab zs → Calls Try.prog 16 #[.slice (some ⟨gb, 0, none⟩) bs.length 4, .slice ab zs.length cb] W fun e w' => RunPost (execRun bs zs) W.heap.size e w' ∧ Below W.heap.size W w') := fun ab cb W hb hs => implRun _ _ 4 cb bs zs W (X1.out.below hb) hs lb (by have := LZ.out; omega)
      have f4 := execRun_four bs xs
      have g4 : Hid ((execRun bs ys).puts.length ≤ 4) := (execRun_four bs ys).2
      have NK : Hid ((execRun bs xs).code = 0 → progOk xs = true) := fun h => (ok_both h).2
      have GR : Hid ((execRun bs xs).code = 0 → xs.length ≤ 7 → NoFar xs → ((execRun bs zs).puts = [] ∧ (execRun bs zs).code = 1 ∧ (execRun bs zs).reads = (execRun bs xs).reads) ∧ ((execRun bs ys).code = 0 ∧ (execRun bs ys).reads = (execRun bs xs).reads ∧ (execRun bs ys).val = (mv : Int)) ∧ cnt ((m4 : Int), (mv : Int)) (execRun bs ys).puts = 1) := fun h1 h2 h3 => by
        rw [hys, hzs]
        exact ⟨own_fail h1 h2 h3, (own_three h1 h2 h3 lm VOK.out).2, own_cnt h1 h2 h3 lm VOK.out⟩
      clear hys hzs
      generalize execRun bs xs = o at IR SR f4 NK GR
      generalize execRun bs ys = o' at I2 g4 GR
      generalize execRun bs zs = o2 at I3 GR
      obtain ⟨f1, f2⟩ := f4
      have ES : Hid (∀ (r1 r2 s1 s2 : Option Addr) (k1 k2 l1 l2 : Nat) (W : World), Sl W r1 o.reads → Sl W r2 o.puts → Sl W s1 o.reads → Sl W s2 o.puts → Calls Try.prog 17 #[.agg #[.slice r1 o.reads.length k1, .slice r2 o.puts.length k2, .int .i64 o.val, .int .i64 o.code], .agg #[.slice s1 o.reads.length l1, .slice s2 o.puts.length l2, .int .i64 o.val, .int .i64 o.code]] W fun e w' => e = .returned (.bool true) ∧ Below W.heap.size W w') := fun r1 r2 s1 s2 k1 k2 l1 l2 W h1 h2 h3 h4 => by
        have := implExecSame r1 r2 s1 s2 k1 k2 l1 l2 o.reads o.puts o.reads o.puts o.val o.code o.val o.code W h1 h2 h3 h4 (by omega) (by omega) (by omega) (by omega)
        rw [show sameRun o.reads o.puts o.reads o.puts o.val o.code o.val o.code = true by simp [sameRun]] at this
        exact this
      go_wp2_with fail
      refine Calls.mono (IR.out w1 (Below.refl _ _)) ?_
      rintro e w5 ⟨hp5, b5⟩
      obtain ⟨g1, e1, g2, e2, rfl, hr5⟩ := hp5.open
      obtain ⟨X, hX⟩ : ∃ X, X = w5.alloc (.cells #[.slice g1 o.reads.length e1, .slice g2 o.puts.length e2, .int .i64 o.val, .int .i64 o.code] 30) := ⟨_, rfl⟩
      have bX : Below w5.heap.size w5 X := by rw [hX]; exact below_new _ _
      have CX : Hid (C4 X w5.heap.size (.slice g1 o.reads.length e1) (.slice g2 o.puts.length e2) (.int .i64 o.val) (.int .i64 o.code)) := by show C4 _ _ _ _ _ _; rw [hX]; exact C4.new _ _ _ _ _ _
      have RX : Hid (RunB o w1.heap.size X g1 g2) := hr5.below bX
      have KX : Hid (Below w1.heap.size w1 X) := b5.trans (bX.mono b5.size)
      have HX : Hid (X = _) := hX
      clear hX bX hr5 b5 hp5
      obtain ⟨_, q0, q1, q2, q3⟩ := CX.out
      go_upto_region 5 with fail
      rw [← HX.out]
      -- the two calls, and what they leave of the run's four cells
      have SRX : Hid (∀ u, Below X.heap.size X u → Calls Try.prog 18 #[.slice (some ⟨gb, 0, none⟩) bs.length 4, .slice (some ⟨g, 0, none⟩) xs.length cap] u fun e w' => ∃ s1 l1 s2 l2, e = .returned (.agg #[.slice s1 o.reads.length l1, .slice s2 o.puts.length l2, .int .i64 o.val, .int .i64 o.code]) ∧ Hid (RunB o w1.heap.size w' g1 g2 ∧ RunB o u.heap.size w' s1 s2 ∧ Below X.heap.size X w') ∧ (w'.cell? ⟨w5.heap.size, 0, none⟩ = some (.slice g1 o.reads.length e1) ∧ w'.cell? ⟨w5.heap.size, 1, none⟩ = some (.slice g2 o.puts.length e2) ∧ w'.cell? ⟨w5.heap.size, 2, none⟩ = some (.int .i64 o.val) ∧ w'.cell? ⟨w5.heap.size, 3, none⟩ = some (.int .i64 o.code))) := fun u hu => by
        refine Calls.mono (SR.out u (KX.out.trans (hu.mono KX.out.size))) ?_
        rintro e w' ⟨hp, hb⟩
        obtain ⟨s1, l1, s2, l2, rfl, hr⟩ := hp.open
        have b' : Below X.heap.size X w' := hu.trans (hb.mono hu.size)
        exact ⟨s1, l1, s2, l2, rfl, ⟨RX.out.below b', hr, b'⟩, (CX.out.below b').2⟩
      have ESX : Hid (∀ (s1 s2 : Option Addr) (l1 l2 B : Nat) (u : World), RunB o w1.heap.size u g1 g2 ∧ RunB o B u s1 s2 ∧ Below X.heap.size X u → Calls Try.prog 17 #[.agg #[.slice g1 o.reads.length e1, .slice g2 o.puts.length e2, .int .i64 o.val, .int .i64 o.code], .agg #[.slice s1 o.reads.length l1, .slice s2 o.puts.length l2, .int .i64 o.val, .int .i64 o.code]] u fun e w' => e = .returned (.bool true) ∧ Hid (Below X.heap.size X w') ∧ (w'.cell? ⟨w5.heap.size, 0, none⟩ = some (.slice g1 o.reads.length e1) ∧ w'.cell? ⟨w5.heap.size, 1, none⟩ = some (.slice g2 o.puts.length e2) ∧ w'.cell? ⟨w5.heap.size, 2, none⟩ = some (.int .i64 o.val) ∧ w'.cell? ⟨w5.heap.size, 3, none⟩ = some (.int .i64 o.code))) := fun s1 s2 l1 l2 B u ⟨h1, h2, h3⟩ => by
        refine Calls.mono (ES.out g1 g2 s1 s2 e1 e2 l1 l2 u h1.reads.sl h1.puts.sl h2.reads.sl h2.puts.sl) ?_
        rintro e w' ⟨rfl, hb⟩
        have b' : Below X.heap.size X w' := h3.trans (hb.mono h3.size)
        exact ⟨rfl, b', (CX.out.below b').2⟩
      obtain ⟨stop, hstop⟩ : ∃ b, b = (o.code != 0 || decide ((7 : Int) < (xs.length : Int))) := ⟨_, rfl⟩
      have ST : Hid (stop = (o.code != 0 || decide ((7 : Int) < (xs.length : Int)))) := hstop
      clear hstop
      go_cut [47] from 32 to 47 (fun x wx => x = .bool stop ∧ Below X.heap.size X wx)
      case first =>
        have BB : Hid (Below X.heap.size X X) := Below.refl _ _
        cases hcd : (o.code != 0) with
        | true =>
          refine wp_region_held_drew (S := (fun w' : World => w'.cell? ⟨w5.heap.size, 0, none⟩ = some (.slice g1 o.reads.length e1) ∧ w'.cell? ⟨w5.heap.size, 1, none⟩ = some (.slice g2 o.puts.length e2) ∧ w'.cell? ⟨w5.heap.size, 2, none⟩ = some (.int .i64 o.val) ∧ w'.cell? ⟨w5.heap.size, 3, none⟩ = some (.int .i64 o.code))) (by kernel_rfl) ⟨q0, q1, q2, q3⟩ (fun hHeld => ?_)
          refine wpAnyH_take (i := 0) (v := ?v0) rfl (by kernel_rfl) (by kernel_rfl) (by kernel_rfl) (fun _ _ _ h => h) (Or.inl ⟨by rfl, ?y0⟩) (by assumption) ?r0
          case y0 =>
            intro w' hSw
            try dsimp only at hSw
            go_simp
            try with_reducible rfl
          simp only [Act.put, List.getElem_toArray, List.getElem_cons_succ, List.getElem_cons_zero, List.setIfInBounds_toArray, List.set_cons_zero, List.set_cons_succ]
          refine wpAnyH_take (i := 1) (v := ?v1) rfl (by kernel_rfl) (by kernel_rfl) (by kernel_rfl) (fun _ _ _ h => h) (Or.inl ⟨by rfl, ?y1⟩) (by assumption) ?r1
          case y1 =>
            intro w' hSw
            try dsimp only at hSw
            go_simp
            try with_reducible rfl
          simp only [Act.put, List.getElem_toArray, List.getElem_cons_succ, List.getElem_cons_zero, List.setIfInBounds_toArray, List.set_cons_zero, List.set_cons_succ]
          refine wpAnyH_take (i := 2) (v := ?v2) rfl (by kernel_rfl) (by kernel_rfl) (by kernel_rfl) (fun _ _ _ h => h) (Or.inl ⟨by rfl, ?y2⟩) (by assumption) ?r2
          case y2 =>
            intro w' hSw
            try dsimp only at hSw
            go_simp
            try with_reducible rfl
          simp only [Act.put, List.getElem_toArray, List.getElem_cons_succ, List.getElem_cons_zero, List.setIfInBounds_toArray, List.set_cons_zero, List.set_cons_succ]
          refine wpAnyH_ready (rs := [3]) (by kernel_rfl) (by simp) ?_
          refine AllReadyH.cons rfl (fun K hK => ?_) AllReadyH.nil
          go_simp
          refine Calls.mono (SRX.out _ (below_drewN BB.out 1)) ?_
          rintro e w6 ⟨s1, l1, s2, l2, rfl, H6, hS6⟩
          refine hK.out _ _ hS6 (fun hHeld2 => ?_)
          clear hK K hHeld hS6
          refine wpAnyH_ready (rs := [4]) (by kernel_rfl) (by simp) ?_
          refine AllReadyH.cons rfl (fun K hK => ?_) AllReadyH.nil
          go_simp
          refine Calls.mono (ESX.out _ _ _ _ _ _ H6.out) ?_
          rintro e w7 ⟨rfl, H7, hS7⟩
          refine hK.out _ _ hS7 (fun hHeld3 => ?_)
          clear hK K hHeld2 hS7
          refine wpAnyH_take (i := 5) (v := ?v5) rfl (by kernel_rfl) (by kernel_rfl) (by kernel_rfl) (fun _ _ _ h => h) (Or.inl ⟨by rfl, ?y5⟩) (by assumption) ?r5
          case y5 =>
            intro w' hSw
            try dsimp only at hSw
            go_simp
            try with_reducible rfl
          simp only [Act.put, List.getElem_toArray, List.getElem_cons_succ, List.getElem_cons_zero, List.setIfInBounds_toArray, List.set_cons_zero, List.set_cons_succ]
          refine wpAnyH_take (i := 6) (v := ?v6) rfl (by kernel_rfl) (by kernel_rfl) (by kernel_rfl) (fun _ _ _ h => h) (Or.inl ⟨by rfl, ?y6⟩) (by assumption) ?r6
          case y6 =>
            intro w' hSw
            try dsimp only at hSw
            go_simp
            try with_reducible rfl
          simp only [Act.put, List.getElem_toArray, List.getElem_cons_succ, List.getElem_cons_zero, List.setIfInBounds_toArray, List.set_cons_zero, List.set_cons_succ]
          refine wpAnyH_take (i := 7) (v := ?v7) rfl (by kernel_rfl) (by kernel_rfl) (by kernel_rfl) (fun _ _ _ h => h) (Or.inl ⟨by rfl, ?y7⟩) (by assumption) ?r7
          case y7 =>
            intro w' hSw
            try dsimp only at hSw
            go_simp
            try with_reducible rfl
          simp only [Act.put, List.getElem_toArray, List.getElem_cons_succ, List.getElem_cons_zero, List.setIfInBounds_toArray, List.set_cons_zero, List.set_cons_succ]
          refine wpAnyH_take (i := 8) (v := ?v8) rfl (by kernel_rfl) (by kernel_rfl) (by kernel_rfl) (fun _ _ _ h => h) (Or.inl ⟨by rfl, ?y8⟩) (by assumption) ?r8
          case y8 =>
            intro w' hSw
            try dsimp only at hSw
            go_simp
            try with_reducible rfl
          simp only [Act.put, List.getElem_toArray, List.getElem_cons_succ, List.getElem_cons_zero, List.setIfInBounds_toArray, List.set_cons_zero, List.set_cons_succ]
          refine wpAnyH_take (i := 9) (v := ?v9) rfl (by kernel_rfl) (by kernel_rfl) (by kernel_rfl) (fun _ _ _ h => h) (Or.inl ⟨by rfl, ?y9⟩) (by assumption) ?r9
          case y9 =>
            intro w' hSw
            try dsimp only at hSw
            go_simp
            try with_reducible rfl
          simp only [Act.put, List.getElem_toArray, List.getElem_cons_succ, List.getElem_cons_zero, List.setIfInBounds_toArray, List.set_cons_zero, List.set_cons_succ]
          refine wpAnyH_take (i := 10) (v := ?v10) rfl (by kernel_rfl) (by kernel_rfl) (by kernel_rfl) (fun _ _ _ h => h) (Or.inl ⟨by rfl, ?y10⟩) (by assumption) ?r10
          case y10 =>
            intro w' hSw
            try dsimp only at hSw
            go_simp
            try with_reducible rfl
          simp only [Act.put, List.getElem_toArray, List.getElem_cons_succ, List.getElem_cons_zero, List.setIfInBounds_toArray, List.set_cons_zero, List.set_cons_succ]
          refine wpAnyH_take (i := 11) (v := ?v11) rfl (by kernel_rfl) (by kernel_rfl) (by kernel_rfl) (fun _ _ _ h => h) (Or.inl ⟨by rfl, ?y11⟩) (by assumption) ?r11
          case y11 =>
            intro w' hSw
            try dsimp only at hSw
            go_simp
            try with_reducible rfl
          simp only [Act.put, List.getElem_toArray, List.getElem_cons_succ, List.getElem_cons_zero, List.setIfInBounds_toArray, List.set_cons_zero, List.set_cons_succ]
          refine wpAnyH_take (i := 12) (v := undef) rfl (by kernel_rfl) (by kernel_rfl) (by kernel_rfl) (fun _ _ _ h => h) (Or.inr ⟨by rfl, rfl⟩) (by assumption) ?_
          simp only [Act.put, List.getElem_toArray, List.getElem_cons_succ, List.getElem_cons_zero, List.setIfInBounds_toArray, List.set_cons_zero, List.set_cons_succ]
          refine wpAnyH_take (i := 13) (v := undef) rfl (by kernel_rfl) (by kernel_rfl) (by kernel_rfl) (fun _ _ _ h => h) (Or.inr ⟨by rfl, rfl⟩) (by assumption) ?_
          simp only [Act.put, List.getElem_toArray, List.getElem_cons_succ, List.getElem_cons_zero, List.setIfInBounds_toArray, List.set_cons_zero, List.set_cons_succ]
          refine wpAnyH_take (i := 14) (v := undef) rfl (by kernel_rfl) (by kernel_rfl) (by kernel_rfl) (fun _ _ _ h => h) (Or.inr ⟨by rfl, rfl⟩) (by assumption) ?_
          simp only [Act.put, List.getElem_toArray, List.getElem_cons_succ, List.getElem_cons_zero, List.setIfInBounds_toArray, List.set_cons_zero, List.set_cons_succ]
          refine wpAnyH_take (i := 15) (v := ?v15) rfl (by kernel_rfl) (by kernel_rfl) (by kernel_rfl) (fun _ _ _ h => h) (Or.inl ⟨by rfl, ?y15⟩) (by assumption) ?r15
          case y15 =>
            intro w' hSw
            try dsimp only at hSw
            go_simp
            try with_reducible rfl
          simp only [Act.put, List.getElem_toArray, List.getElem_cons_succ, List.getElem_cons_zero, List.setIfInBounds_toArray, List.set_cons_zero, List.set_cons_succ]
          refine wpAnyH_done (by kernel_rfl) ?_ _
          go_wp2_with fail
          go_meet
          exact ⟨by rw [ST.out, hcd]; rfl, H7.out⟩
        | false =>
          go_region_held3 (fun w' : World => w'.cell? ⟨w5.heap.size, 0, none⟩ = some (.slice g1 o.reads.length e1) ∧ w'.cell? ⟨w5.heap.size, 1, none⟩ = some (.slice g2 o.puts.length e2) ∧ w'.cell? ⟨w5.heap.size, 2, none⟩ = some (.int .i64 o.val) ∧ w'.cell? ⟨w5.heap.size, 3, none⟩ = some (.int .i64 o.code)) (first | assumption | go_keep) (first | (go_at_call 18; refine Calls.mono (SRX.out _ (below_drewN BB.out 1)) ?_; rintro e w6 ⟨s1, l1, s2, l2, rfl, H6, hS6⟩) | (go_at_call 17; refine Calls.mono (ESX.out _ _ _ _ _ _ H6.out) ?_; rintro e w7 ⟨rfl, H7, hS7⟩))
          go_wp2_with fail
          go_meet
          exact ⟨by rw [ST.out, hcd]; rfl, H7.out⟩
      case rest =>
        rename World => V
        obtain ⟨rfl, hB⟩ := hcut
        have BV : Hid (Below X.heap.size X V) := hB
        have CV : Hid (C4 V w5.heap.size (.slice g1 o.reads.length e1) (.slice g2 o.puts.length e2) (.int .i64 o.val) (.int .i64 o.code)) := CX.out.below hB
        have RV : Hid (RunB o w1.heap.size V g1 g2) := RX.out.below hB
        have KV : Hid (Below w1.heap.size w1 V) := KX.out.trans (hB.mono KX.out.size)
        obtain ⟨_, z0, z1, z2, z3⟩ := CV.out
        clear hB q0 q1 q2 q3
        cases stop with
        | true =>
          go_upto_region 6 with fail
          go_region_held3 (fun w' : World => w'.cell? ⟨w5.heap.size, 0, none⟩ = some (.slice g1 o.reads.length e1) ∧ w'.cell? ⟨w5.heap.size, 1, none⟩ = some (.slice g2 o.puts.length e2) ∧ w'.cell? ⟨w5.heap.size, 2, none⟩ = some (.int .i64 o.val) ∧ w'.cell? ⟨w5.heap.size, 3, none⟩ = some (.int .i64 o.code)) (first | assumption | go_keep) (first | (go_at_call 18; refine Calls.mono (SRX.out _ (below_drewN BV.out 1)) ?_; rintro e w6 ⟨s1, l1, s2, l2, rfl, H6, hS6⟩) | (go_at_call 17; refine Calls.mono (ESX.out _ _ _ _ _ _ H6.out) ?_; rintro e w7 ⟨rfl, H7, hS7⟩))
          go_wp2_with fail
          go_ret
          exact ⟨rfl, B1.out.trans ((KX.out.trans (H7.out.mono KX.out.size)).mono B1.out.size)⟩
        | false =>
          have HS := ST.out.symm
          simp only [Bool.or_eq_false_iff, bne_eq_false_iff_eq, decide_eq_false_iff_not] at HS
          have HC0 : Hid (o.code = 0) := HS.1
          have lx7 : Hid (xs.length ≤ 7) := by show _ ≤ _; omega
          have PO : Hid (progOk xs = true) := NK.out HS.1
          clear HS
          go_wp2_with fail
          clear z0 z1 z2 z3
          go_loopw [8] (fun i wr => ∃ k : Nat, k ≤ xs.length ∧ i = .int .i64 k ∧ Hid (∀ i, i < k → (xs.getD i q0).1 = 6 → i + (xs.getD i q0).2.2.2.toNat < xs.length) ∧ Below V.heap.size V wr) (fun i _ => xs.length - (intOf i).toNat)
          case atStart => exact ⟨0, Nat.zero_le _, rfl, fun i hi => by omega, Below.refl _ _⟩
          case round =>
            obtain ⟨k, hk, rfl, hA, hB⟩ := hrel
            have BR : Hid (Below V.heap.size V wr) := hB
            clear hB
            by_cases hlt : k < xs.length
            · have hki : (k : Int) < (xs.length : Int) := by omega
              obtain ⟨c0, c1, c2, c3⟩ := ((A1.out.below KV.out).below BR.out).2 k hlt
              have HI : Hid (insOk (xs.getD k q0) = true) := progOk_ins PO.out _ (getD_mem hlt)
              rw [Nat.zero_add] at c0 c1 c2 c3
              by_cases h6 : (xs.getD k q0).1 = 6
              · obtain ⟨nn, hnn, ln⟩ := less_n HI.out h6
                rw [h6] at c0
                rw [hnn] at c3
                by_cases hfar : xs.length ≤ k + nn
                · have df : decide ((xs.length : Int) ≤ (k : Int) + (nn : Int)) = true := by simp; omega
                  clear h6 hnn
                  go_wp2_with fail
                  go_ret
                  exact ⟨rfl, B1.out.trans ((KV.out.trans (BR.out.mono KV.out.size)).mono B1.out.size)⟩
                · have df : decide ((xs.length : Int) ≤ (k : Int) + (nn : Int)) = false := by simp; omega
                  have N : Hid (∀ i, i < k + 1 → (xs.getD i q0).1 = 6 → i + (xs.getD i q0).2.2.2.toNat < xs.length) := fun i hi h => by
                    by_cases e : i = k
                    · subst e; rw [hnn]; simp; omega
                    · exact hA.out i (by omega) h
                  clear h6 hnn
                  go_wp2_with fail
                  go_roundw
                  case rel => exact ⟨k + 1, by omega, by go_num, N, BR.out⟩
                  case measure => simp [intOf]; omega
              · have N : Hid (∀ i, i < k + 1 → (xs.getD i q0).1 = 6 → i + (xs.getD i q0).2.2.2.toNat < xs.length) := fun i hi h => by
                  by_cases e : i = k
                  · subst e; exact absurd h h6
                  · exact hA.out i (by omega) h
                have h6' : ((xs.getD k q0).1 == 6) = false := by simpa using h6
                clear h6 hA
                generalize (xs.getD k q0).1 = kd at c0 h6'
                go_wp2_with fail
                go_roundw
                case rel => exact ⟨k + 1, by omega, by go_num, N, BR.out⟩
                case measure => simp [intOf]; omega
            · have hki : ¬ (k : Int) < (xs.length : Int) := by omega
              have NF : NoFar xs := by
                have h := hA.out
                rw [show k = xs.length by omega] at h
                exact h
              have HG : Hid (_ ∧ _ ∧ _) := GR.out HC0.out lx7.out NF
              clear NF hA
              have E2 : Hid (∀ (ab : Option Addr) (cb : Nat) (W : World), Below w1.heap.size w1 W → Sl4 W ab ys → Calls Try.prog 16 #[.slice (some ⟨gb, 0, none⟩) bs.length 4, .slice ab ys.length cb] W fun e w' => ∃ s1 l1 s2 l2, e = .returned (.agg #[.slice s1 o.reads.length l1, .slice s2 o'.puts.length l2, .int .i64 (mv : Int), .int .i64 0]) ∧ Hid (Sl w' s2 o'.puts) ∧ Hid (Below W.heap.size W w')) := fun ab cb W hb hs => by
                refine Calls.mono (I2.out ab cb W hb hs) ?_
                rintro e w' ⟨hp, hb'⟩
                obtain ⟨s1, l1, s2, l2, rfl, hr⟩ := hp.open
                exact ⟨s1, l1, s2, l2, by rw [HG.out.2.1.1, HG.out.2.1.2.1, HG.out.2.1.2.2], hr.puts.sl, hb'⟩
              have E3 : Hid (∀ (ab : Option Addr) (cb : Nat) (W : World), Below w1.heap.size w1 W → Sl4 W ab zs → Calls Try.prog 16 #[.slice (some ⟨gb, 0, none⟩) bs.length 4, .slice ab zs.length cb] W fun e w' => ∃ s1 l1 s2 l2, e = .returned (.agg #[.slice s1 o.reads.length l1, .slice s2 0 l2, .int .i64 o2.val, .int .i64 1]) ∧ Hid (Below W.heap.size W w')) := fun ab cb W hb hs => by
                refine Calls.mono (I3.out ab cb W hb hs) ?_
                rintro e w' ⟨hp, hb'⟩
                obtain ⟨s1, l1, s2, l2, rfl, hr⟩ := hp.open
                exact ⟨s1, l1, s2, l2, by rw [HG.out.1.1, HG.out.1.2.1, HG.out.1.2.2]; rfl, hb'⟩
              have CN : Hid (cnt ((m4 : Int), (mv : Int)) o'.puts = 1) := HG.out.2.2
              have KR : Hid (Below w1.heap.size w1 wr) := KV.out.trans (BR.out.mono KV.out.size)
              have CR : Hid (C4 wr w5.heap.size (.slice g1 o.reads.length e1) (.slice g2 o.puts.length e2) (.int .i64 o.val) (.int .i64 o.code)) := CV.out.below BR.out
              obtain ⟨i0, hi, hz0, hz1, hz2⟩ := info_parts infoInsD
              have I0 : Hid (Try.prog.info? 53 = some i0 ∧ i0.zero = some (.agg #[.int .i64 0, .int .i64 0, .int .i64 0, .int .i64 0]) ∧ i0.size = 4 ∧ i0.bytes = 32) := ⟨hi, hz0, hz1, hz2⟩
              clear hi hz0 hz1 hz2
              have A4 : Hid (At4 wr g 0 xs) := A1.out.below KR.out
              have M0 : Hid (0 + xs.length ≤ maxLen) := by show _ ≤ _; unfold maxLen; omega
              have M1 : Hid (xs.length + 1 ≤ maxLen) := by show _ ≤ _; unfold maxLen; omega
              have M6 : Hid (xs.length + 3 ≤ maxLen) := by show _ ≤ _; unfold maxLen; omega
              have M2 : Hid ((0 + xs.length) * 32 ≤ 140737488355328) := by show _ ≤ _; omega
              have M3 : Hid ((xs.length + 1) * 32 ≤ 140737488355328) := by show _ ≤ _; omega
              have M7 : Hid ((xs.length + 3) * 32 ≤ 140737488355328) := by show _ ≤ _; omega
              clear GR NK SRX ESX ES IR SR I2 I3 HG CX RX KX HX HC0 PO
              go_wp2_with (at_builtin; refine wpList_append_own _ rfl (.tmp 83) (.tmp 84) 24 rfl wr.heap.size 53 i0 (.agg #[.int .i64 0, .int .i64 0, .int .i64 0, .int .i64 0]) 4 32 Try.underlying24 I0.out.1 I0.out.2.1 I0.out.2.2.1 I0.out.2.2.2 rfl (by decide) (.slice (some ⟨wr.heap.size, 0, none⟩) 0 0) 0 [] rfl (own_emptyQ wr wr.heap.size rfl) ⟨g, 0, none⟩ xs.length cap (flat4 xs) rfl (flat4_length xs) (flat4_atG (A4.out.below (below_new _ _))) (flat4_one _) M0.out M2.out (by rw [size_new]; omega) ?_)
              intro v1 v5 hown hgr _
              have O5 : Hid (v5.ownsRow wr.heap.size 53 4 v1 xs.length (flat4 xs)) := by
                show v5.ownsRow _ _ _ _ _ _
                simpa using hown
              have B5 : Hid (Below wr.heap.size wr v5) := Below.grown (below_new _ _) hgr (by rw [size_new]; omega) (fun k hk => by simp only [Value.ownBlock] at hk; injection hk with hk; omega)
              clear hown hgr
              go_wp2_with (at_builtin; refine wpList_append_own _ rfl (.tmp 85) (.tmp 92) 24 rfl wr.heap.size 53 i0 (.agg #[.int .i64 0, .int .i64 0, .int .i64 0, .int .i64 0]) 4 32 Try.underlying24 I0.out.1 I0.out.2.1 I0.out.2.2.1 I0.out.2.2.2 rfl (by decide) v1 xs.length (flat4 xs) rfl (World.ownsRow.kept O5.out (World.grownBy_alloc _ _ none) (by cases v1.ownBlock <;> simp)) ⟨v5.heap.size, 0, none⟩ 3 3 [.int .i64 3, .int .i64 1, .int .i64 0, .int .i64 (mv : Int), .int .i64 2, .int .i64 (m4 : Int), .int .i64 1, .int .i64 0, .int .i64 1, .int .i64 0, .int .i64 (m4 : Int), .int .i64 0] rfl rfl (World.news_of_block (cs := #[.int .i64 3, .int .i64 1, .int .i64 0, .int .i64 (mv : Int), .int .i64 2, .int .i64 (m4 : Int), .int .i64 1, .int .i64 0, .int .i64 1, .int .i64 0, .int .i64 (m4 : Int), .int .i64 0]) (t := 53) (fr := (0, 0)) (heap_alloc_new v5 _)) (by simp [Value.oneCell']) M6.out M7.out (by rw [size_new]; have := B5.out.size; omega) ?_)
              intro v2 w6 hown hgr _
              have O6 : Hid (OwnQ w6 wr.heap.size v2 ys) := by
                show OwnQ _ _ _ _
                unfold OwnQ
                rw [HY.out, List.length_append, show flat4 (xs ++ [(3, 1, 0, (mv : Int)), (2, (m4 : Int), 1, 0), (1, 0, (m4 : Int), 0)]) = flat4 xs ++ [.int .i64 3, .int .i64 1, .int .i64 0, .int .i64 (mv : Int), .int .i64 2, .int .i64 (m4 : Int), .int .i64 1, .int .i64 0, .int .i64 1, .int .i64 0, .int .i64 (m4 : Int), .int .i64 0] by simp [flat4]]
                exact hown
              have B6 : Hid (Below wr.heap.size wr w6) := Below.grown (B5.out.alloc B5.out.size _) hgr (by rw [size_new]; have := B5.out.size; omega) (fun k hk => (O5.out.lt k hk).1)
              clear hown hgr
              obtain ⟨ab, capb, rfl, slb, hcb⟩ := O6.out.open
              have SB : Hid (Sl4 w6 ab ys) := slb
              have K6 : Hid (Below w1.heap.size w1 w6) := KR.out.trans (B6.out.mono KR.out.size)
              clear slb hcb O6 O5
              go_wp2_with fail
              refine Calls.mono (E2.out ab capb w6 K6.out SB.out) ?_
              rintro e w7 ⟨s1, l1, s2, l2, rfl, hP, h7⟩
              obtain ⟨Y, hY⟩ : ∃ Y, Y = w7.alloc (.cells #[.slice s1 o.reads.length l1, .slice s2 o'.puts.length l2, .int .i64 (mv : Int), .int .i64 0] 30) := ⟨_, rfl⟩
              have bY : Below w7.heap.size w7 Y := by rw [hY]; exact below_new _ _
              have CY : Hid (C4 Y w7.heap.size (.slice s1 o.reads.length l1) (.slice s2 o'.puts.length l2) (.int .i64 (mv : Int)) (.int .i64 0)) := by show C4 _ _ _ _ _ _; rw [hY]; exact C4.new _ _ _ _ _ _
              have b7Y : Below w6.heap.size w6 Y := h7.out.trans (bY.mono h7.out.size)
              have KY : Hid (Below w1.heap.size w1 Y) := K6.out.trans (b7Y.mono K6.out.size)
              have CZ : Hid (C4 Y w5.heap.size (.slice g1 o.reads.length e1) (.slice g2 o.puts.length e2) (.int .i64 o.val) (.int .i64 o.code)) := CR.out.below (B6.out.trans (b7Y.mono B6.out.size))
              have PY : Hid (Sl Y s2 o'.puts) := hP.out.below bY
              have AY : Hid (At4 Y g 0 xs) := A1.out.below KY.out
              have HYY : Hid (Y = _) := hY
              clear hY bY h7 b7Y hP
              go_upto_region 16 with fail
              rw [← HYY.out]
              clear A4
              have A4 : Hid (At4 Y g 0 xs) := AY
              clear AY
              go_wp2_with (at_builtin; refine wpList_append_own _ rfl (.tmp 98) (.tmp 99) 24 rfl Y.heap.size 53 i0 (.agg #[.int .i64 0, .int .i64 0, .int .i64 0, .int .i64 0]) 4 32 Try.underlying24 I0.out.1 I0.out.2.1 I0.out.2.2.1 I0.out.2.2.2 rfl (by decide) (.slice (some ⟨Y.heap.size, 0, none⟩) 0 0) 0 [] rfl (own_emptyQ Y Y.heap.size rfl) ⟨g, 0, none⟩ xs.length cap (flat4 xs) rfl (flat4_length xs) (flat4_atG (A4.out.below (below_new _ _))) (flat4_one _) M0.out M2.out (by rw [size_new]; omega) ?_)
              intro v1 v5 hown hgr _
              have O5 : Hid (v5.ownsRow Y.heap.size 53 4 v1 xs.length (flat4 xs)) := by
                show v5.ownsRow _ _ _ _ _ _
                simpa using hown
              have B5 : Hid (Below Y.heap.size Y v5) := Below.grown (below_new _ _) hgr (by rw [size_new]; omega) (fun k hk => by simp only [Value.ownBlock] at hk; injection hk with hk; omega)
              clear hown hgr
              go_wp2_with (at_builtin; refine wpList_append_own _ rfl (.tmp 100) (.tmp 102) 24 rfl Y.heap.size 53 i0 (.agg #[.int .i64 0, .int .i64 0, .int .i64 0, .int .i64 0]) 4 32 Try.underlying24 I0.out.1 I0.out.2.1 I0.out.2.2.1 I0.out.2.2.2 rfl (by decide) v1 xs.length (flat4 xs) rfl (World.ownsRow.kept O5.out (World.grownBy_alloc _ _ none) (by cases v1.ownBlock <;> simp)) ⟨v5.heap.size, 0, none⟩ 1 1 [.int .i64 7, .int .i64 0, .int .i64 0, .int .i64 0] rfl rfl (four_new _ _ _ _ _) (by simp [Value.oneCell']) M1.out M3.out (by rw [size_new]; have := B5.out.size; omega) ?_)
              intro v2 w8 hown hgr _
              have O8 : Hid (OwnQ w8 Y.heap.size v2 zs) := by
                show OwnQ _ _ _ _
                unfold OwnQ
                rw [HZ.out, List.length_append, flat4_snoc]
                exact hown
              have B8 : Hid (Below Y.heap.size Y w8) := Below.grown (B5.out.alloc B5.out.size _) hgr (by rw [size_new]; have := B5.out.size; omega) (fun k hk => (O5.out.lt k hk).1)
              clear hown hgr
              obtain ⟨az, capz, rfl, slz, hcz⟩ := O8.out.open
              have SZ : Hid (Sl4 w8 az zs) := slz
              have K8 : Hid (Below w1.heap.size w1 w8) := KY.out.trans (B8.out.mono KY.out.size)
              clear slz hcz O8 O5
              go_wp2_with fail
              refine Calls.mono (E3.out az capz w8 K8.out SZ.out) ?_
              rintro e w9 ⟨r1, k1, r2, k2, rfl, h9⟩
              obtain ⟨F, hF⟩ : ∃ F, F = w9.alloc (.cells #[.slice r1 o.reads.length k1, .slice r2 0 k2, .int .i64 o2.val, .int .i64 1] 30) := ⟨_, rfl⟩
              have bF : Below w9.heap.size w9 F := by rw [hF]; exact below_new _ _
              have CF : Hid (C4 F w9.heap.size (.slice r1 o.reads.length k1) (.slice r2 0 k2) (.int .i64 o2.val) (.int .i64 1)) := by show C4 _ _ _ _ _ _; rw [hF]; exact C4.new _ _ _ _ _ _
              have b9F : Below w8.heap.size w8 F := h9.out.trans (bF.mono h9.out.size)
              have bYF : Below Y.heap.size Y F := B8.out.trans (b9F.mono B8.out.size)
              have KF : Hid (Below w1.heap.size w1 F) := KY.out.trans (bYF.mono KY.out.size)
              have CYF : Hid (C4 F w7.heap.size (.slice s1 o.reads.length l1) (.slice s2 o'.puts.length l2) (.int .i64 (mv : Int)) (.int .i64 0)) := CY.out.below bYF
              have CZF : Hid (C4 F w5.heap.size (.slice g1 o.reads.length e1) (.slice g2 o.puts.length e2) (.int .i64 o.val) (.int .i64 o.code)) := CZ.out.below bYF
              have PF : Hid (Sl F s2 o'.puts) := PY.out.below bYF
              have HFF : Hid (F = _) := hF
              clear hF bF h9 b9F bYF
              go_upto_region 17 with fail
              rw [← HFF.out]
              obtain ⟨_, q0, q1, q2, q3⟩ := CF.out
              obtain ⟨_, y0, y1, y2, y3⟩ := CYF.out
              obtain ⟨_, z0, z1, z2, z3⟩ := CZF.out
              have nr : ((o.reads.length : Int) != (o.reads.length : Int)) = false := by simp
              have nv : ((mv : Int) != (mv : Int)) = false := by simp
              go_wp2_with fail
              clear q0 q1 q2 q3 y0 y1 y2 y3 z0 z1 z2 z3 nr nv
              have P4 := g4.out
              generalize o'.puts = P at CN PF CYF P4
              go_loopw [14, 15] (fun nn i wq => ∃ k : Nat, k ≤ P.length ∧ i = .int .i64 k ∧ nn = .int .i64 (cnt ((m4 : Int), (mv : Int)) (P.take k) : Nat) ∧ Below F.heap.size F wq) (fun _ i _ => P.length - (intOf i).toNat)
              case atStart => exact ⟨0, Nat.zero_le _, rfl, rfl, Below.refl _ _⟩
              case round =>
                rename World => wq
                obtain ⟨k, hk, rfl, rfl, hB⟩ := hrel
                have BQ : Hid (Below F.heap.size F wq) := hB
                obtain ⟨_, y0, y1, y2, y3⟩ := CYF.out.below hB
                clear hB y0 y2 y3
                by_cases hlt : k < P.length
                · have hki : (k : Int) < (P.length : Int) := by omega
                  rcases PF.out.below BQ.out with h | ⟨b2, o2', rfl, h2⟩
                  · rw [h] at hlt; simp at hlt
                  obtain ⟨da, db⟩ := h2.2 k hlt
                  have HCS : Hid (cnt ((m4 : Int), (mv : Int)) (P.take (k + 1)) = cnt ((m4 : Int), (mv : Int)) (P.take k) + if P.getD k (0, 0) = ((m4 : Int), (mv : Int)) then 1 else 0) := cnt_succ hlt
                  have lc : cnt ((m4 : Int), (mv : Int)) (P.take k) ≤ 4 := Nat.le_trans (List.length_filter_le _ _) (by simp; omega)
                  clear h2
                  generalize P.getD k (0, 0) = p at da db HCS
                  obtain ⟨p1, p2⟩ := p
                  generalize cnt ((m4 : Int), (mv : Int)) (P.take k) = cc at HCS lc
                  have fin : ∀ (b1 b2 : Bool), True := fun _ _ => trivial
                  cases e1' : (p1 == (m4 : Int)) with
                  | false =>
                    have N : Hid (cnt ((m4 : Int), (mv : Int)) (P.take (k + 1)) = cc) := by
                      show _ = _
                      rw [HCS.out, if_neg (by intro h; injection h with h1 h2; simp [h1] at e1')]; rfl
                    clear fin HCS
                    go_wp2_with fail
                    go_roundw
                    case rel => exact ⟨k + 1, by omega, by go_num, by rw [N.out], BQ.out⟩
                    case measure => simp [intOf]; omega
                  | true =>
                    cases e2' : (p2 == (mv : Int)) with
                    | false =>
                      have N : Hid (cnt ((m4 : Int), (mv : Int)) (P.take (k + 1)) = cc) := by
                        show _ = _
                        rw [HCS.out, if_neg (by intro h; injection h with h1 h2; simp [h2] at e2')]; rfl
                      clear fin HCS
                      go_wp2_with fail
                      go_roundw
                      case rel => exact ⟨k + 1, by omega, by go_num, by rw [N.out], BQ.out⟩
                      case measure => simp [intOf]; omega
                    | true =>
                      have N : Hid (cnt ((m4 : Int), (mv : Int)) (P.take (k + 1)) = cc + 1) := by
                        show _ = _
                        rw [HCS.out, if_pos (by rw [beq_iff_eq] at e1' e2'; rw [e1', e2'])]
                      clear fin HCS
                      go_wp2_with fail
                      go_roundw
                      case rel => exact ⟨k + 1, by omega, by go_num, by rw [N.out]; go_num, BQ.out⟩
                      case measure => simp [intOf]; omega
                · have hki : ¬ (k : Int) < (P.length : Int) := by omega
                  have C1 : cnt ((m4 : Int), (mv : Int)) (P.take k) = 1 := by
                    rw [show k = P.length by omega, List.take_length]; exact CN.out
                  rw [C1]
                  clear C1
                  go_wp2_with fail
                  go_ret
                  exact ⟨rfl, B1.out.trans ((KF.out.trans (BQ.out.mono KF.out.size)).mono B1.out.size)⟩
    · have hd2 : decide ((1048576 : Int) < (n' : Int)) = true := by simp; omega
      go_enter Try.func5, Try.ntmps5
      go_wp2_with fail
      go_ret
      exact ⟨rfl, Below.refl _ _⟩
  · have hd : decide ((1048576 : Int) < (n : Int)) = true := by simp; omega
    go_enter Try.func5, Try.ntmps5
    go_wp2_with fail
    go_ret
    exact ⟨rfl, Below.refl _ _⟩
end Go.Proofs.Ytiibonnchmphcaa.Own
