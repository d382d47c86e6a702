/-
  Own text: laws.FnExec.
-/
import Derived.Test.YtiibonnchmphcaaPk8
import Derived.Test.YtiibonnchmphcaaQRunB
import Derived.Test.YtiibonnchmphcaaQOtherMath
import Derived.Test.YtiibonnchmphcaaPk4
import Derived.Test.YtiibonnchmphcaaQDrawRun
import Derived.Test.YtiibonnchmphcaaPk2
import Derived.Test.YtiibonnchmphcaaQExecSameI
import Derived.Test.YtiibonnchmphcaaPk3
import Derived.Test.YtiibonnchmphcaaPk5
import Derived.Test.YtiibonnchmphcaaQGatherL
import Derived.Test.YtiibonnchmphcaaQGatherP
import Derived.Test.YtiibonnchmphcaaPk6
import Derived.BigQuiet
import Derived.Deep.RegionHeld3
import Derived.Deep.Cut
import Derived.Deep.CutRange
namespace Go.Proofs.Ytiibonnchmphcaa.Own
open Go.RowKit
set_option linter.unusedVariables false
set_option linter.unusedSimpArgs false

theorem Saw.other {w : World} {A : Nat} {rs : List P2} (h : Saw w A rs) {p : Addr} (hp : ¬ p.block = A) (v : Value) : Saw (w.setCell p v) A rs :=
  h.turned (L := [p.block]) (Turned.set (Turned.refl _ _) (by simp) v) (by simp; omega)
theorem below_set {B : Nat} {a b : World} (h : Below B a b) {p : Addr} (hp : B ≤ p.block) (hB : B ≤ b.heap.size) (v : Value) : Below B a (b.setCell p v) :=
  h.trans ((Turned.set (Turned.refl [p.block] b) (by simp) v).below (fun x hx => by simp at hx; omega) hB)
theorem Saw.new (w : World) (t : TypeId) : Saw (w.alloc (.cells #[.bool false, .bool false, .bool false, .bool false] t)) w.heap.size [] := by
  refine ⟨by rw [size_new]; omega, fun o => frozen_heap (heap_new _ _) o, fun j hj => ?_⟩
  rw [cell_heap (heap_new _ _)]
  have : j = 0 ∨ j = 1 ∨ j = 2 ∨ j = 3 := by omega
  rcases this with rfl | rfl | rfl | rfl <;> rfl

set_option maxRecDepth 100000 in
set_option maxHeartbeats 4000000 in
theorem lawExec (a : Option Addr) (n c : Nat) (a' : Option Addr) (n' c' : Nat) (w : World) (h : Bytes w w.heap.size a n) (hc : n ≤ c) (hm : c ≤ maxLen) (h' : Bytes w w.heap.size a' n') (hc' : n' ≤ c') (hm' : c' ≤ maxLen) :
    Calls Try.prog 3 #[.slice a n c, .slice a' n' c'] w fun e w' => e = .returned (.bool true) ∧ Below w.heap.size w w' := by
  have HB : Hid (Bytes w w.heap.size a n) := h
  have HM : Hid (c ≤ maxLen) := hm
  clear h h'
  unfold maxLen at hm hm'
  by_cases hn : n ≤ 1048576
  · have hd : decide ((1048576 : Int) < (n : Int)) = false := by simp; omega
    by_cases hn2 : n' ≤ 1048576
    · have hd2 : decide ((1048576 : Int) < (n' : Int)) = false := by simp; omega
      obtain ⟨m7, em7, lm7⟩ : ∃ m : Nat, (n' : Int) % 7 = m ∧ m < 7 := ⟨n' % 7, by simp, Nat.mod_lt _ (by omega)⟩
      obtain ⟨m50, em50, lm50⟩ : ∃ m : Nat, (n' : Int) % 50 = m ∧ m < 50 := ⟨n' % 50, by simp, Nat.mod_lt _ (by omega)⟩
      have ZOK : Hid (boxOk1 ((m7 : Int), (m50 : Int)) = true) := by show _ = true; simp [boxOk1, numOk]; omega
      go_enter Try.func3, Try.ntmps3
      go_wp2_with fail
      refine (drawExecRun a n c w HB.out hc HM.out).mono ?_
      rintro e w1 ⟨gb, bs, g, cap, xs, rfl, ⟨lb, lx⟩, ⟨x1, y1⟩, hb⟩
      have X1 : Hid (Sl w1 (some ⟨gb, 0, none⟩) bs) := .inr ⟨gb, 0, rfl, x1⟩
      have Z1 : Hid (BoxAt w1 gb 0 bs) := x1
      have Y1 : Hid (Sl4 w1 (some ⟨g, 0, none⟩) xs) := .inr ⟨g, 0, rfl, y1⟩
      have B1 : Hid (Below w.heap.size w w1) := hb
      have nx : xs.length ≤ 2 ^ 40 := by omega
      have nb : bs.length ≤ 2 ^ 40 := by omega
      clear x1 y1 hb
      have IR : Hid (∀ W, Below w1.heap.size w1 W → Calls Try.prog 16 #[.slice (some ⟨gb, 0, none⟩) bs.length 4, .slice (some ⟨g, 0, none⟩) xs.length cap] W fun e w' => RunPost (execRun bs xs) W.heap.size e w' ∧ Below W.heap.size W w') := fun W hb => implRun _ _ 4 cap bs xs W (X1.out.below hb) (Y1.out.below hb) lb nx
      have SR : Hid (∀ W, Below w1.heap.size w1 W → Calls Try.prog 18 #[.slice (some ⟨gb, 0, none⟩) bs.length 4, .slice (some ⟨g, 0, none⟩) xs.length cap] W fun e w' => RunPost (execRun bs xs) W.heap.size e w' ∧ Below W.heap.size W w') := fun W hb => specRun _ _ 4 cap bs xs W (X1.out.below hb) (Y1.out.below hb) nb nx
      have f4 := execRun_four bs xs
      have FW : Hid ((execRun bs xs).reads.length ≤ (boxesTo loadsQ xs 4).length ∧ (execRun bs xs).puts.length ≤ (boxesTo putsQ xs 4).length) := execRun_few bs xs
      have R4 : Hid (∀ k, k < (execRun bs xs).reads.length → ∃ j : Nat, j < 4 ∧ ((execRun bs xs).reads.getD k (0, 0)).1 = (j : Int)) := execRun_reads4 bs xs
      have EOK : Hid (execOk (execRun bs xs).reads (execRun bs xs).puts (execRun bs xs).val (execRun bs xs).code = true) := execRun_ok bs xs
      have FORM : Hid ((boxOk bs && progOk xs) = false → (execRun bs xs).code = 3) := fun h => by rw [execRun_form h]
      have FR : Hid (boxOk bs = true → progOk xs = true → execFresh bs (execRun bs xs).reads (execRun bs xs).puts (execRun bs xs).val (execRun bs xs).code = true) := execRun_fresh
      have OT : Hid (∀ cur, boxOk bs = true → progOk xs = true → Mixed bs (execRun bs xs).reads ((m7 : Int), (m50 : Int)) 4 cur → execRun cur xs = execRun bs xs ∧ execFresh cur (execRun bs xs).reads (execRun bs xs).puts (execRun bs xs).val (execRun bs xs).code = true) := fun cur h1 h2 h3 => other_same h1 h2 h3.done.1 ZOK.out h3.done.2
      generalize execRun bs xs = o at IR SR f4 FW R4 EOK FORM FR OT
      obtain ⟨f1, f2⟩ := f4
      have ES : Hid (∀ (r1 r2 s1 s2 : Option Addr) (k1 k2 l1 l2 : Nat) (W : World), Sl W r1 o.reads → Sl W r2 o.puts → Sl W s1 o.reads → Sl W s2 o.puts → Calls Try.prog 17 #[.agg #[.slice r1 o.reads.length k1, .slice r2 o.puts.length k2, .int .i64 o.val, .int .i64 o.code], .agg #[.slice s1 o.reads.length l1, .slice s2 o.puts.length l2, .int .i64 o.val, .int .i64 o.code]] W fun e w' => e = .returned (.bool true) ∧ Below W.heap.size W w') := fun r1 r2 s1 s2 k1 k2 l1 l2 W h1 h2 h3 h4 => by
        have := implExecSame r1 r2 s1 s2 k1 k2 l1 l2 o.reads o.puts o.reads o.puts o.val o.code o.val o.code W h1 h2 h3 h4 (by omega) (by omega) (by omega) (by omega)
        rw [show sameRun o.reads o.puts o.reads o.puts o.val o.code o.val o.code = true by simp [sameRun]] at this
        exact this
      go_wp2_with fail
      refine Calls.mono (IR.out w1 (Below.refl _ _)) ?_
      rintro e w5 ⟨hp5, b5⟩
      obtain ⟨g1, e1, g2, e2, rfl, hr5⟩ := hp5.open
      obtain ⟨X, hX⟩ : ∃ X, X = w5.alloc (.cells #[.slice g1 o.reads.length e1, .slice g2 o.puts.length e2, .int .i64 o.val, .int .i64 o.code] 30) := ⟨_, rfl⟩
      have bX : Below w5.heap.size w5 X := by rw [hX]; exact below_new _ _
      have CX : Hid (C4 X w5.heap.size (.slice g1 o.reads.length e1) (.slice g2 o.puts.length e2) (.int .i64 o.val) (.int .i64 o.code)) := by show C4 _ _ _ _ _ _; rw [hX]; exact C4.new _ _ _ _ _ _
      have RX : Hid (RunB o w1.heap.size X g1 g2) := hr5.below bX
      have KX : Hid (Below w1.heap.size w1 X) := b5.trans (bX.mono b5.size)
      have HX : Hid (X = _) := hX
      clear hX bX hr5 b5 hp5
      obtain ⟨_, q0, q1, q2, q3⟩ := CX.out
      go_upto_region 5 with fail
      rw [← HX.out]
      have SRX : Hid (∀ u, Below X.heap.size X u → Calls Try.prog 18 #[.slice (some ⟨gb, 0, none⟩) bs.length 4, .slice (some ⟨g, 0, none⟩) xs.length cap] u fun e w' => ∃ s1 l1 s2 l2, e = .returned (.agg #[.slice s1 o.reads.length l1, .slice s2 o.puts.length l2, .int .i64 o.val, .int .i64 o.code]) ∧ Hid (RunB o w1.heap.size w' g1 g2 ∧ RunB o u.heap.size w' s1 s2 ∧ Below X.heap.size X w') ∧ (w'.cell? ⟨w5.heap.size, 0, none⟩ = some (.slice g1 o.reads.length e1) ∧ w'.cell? ⟨w5.heap.size, 1, none⟩ = some (.slice g2 o.puts.length e2) ∧ w'.cell? ⟨w5.heap.size, 2, none⟩ = some (.int .i64 o.val) ∧ w'.cell? ⟨w5.heap.size, 3, none⟩ = some (.int .i64 o.code))) := fun u hu => by
        refine Calls.mono (SR.out u (KX.out.trans (hu.mono KX.out.size))) ?_
        rintro e w' ⟨hp, hb⟩
        obtain ⟨s1, l1, s2, l2, rfl, hr⟩ := hp.open
        have b' : Below X.heap.size X w' := hu.trans (hb.mono hu.size)
        exact ⟨s1, l1, s2, l2, rfl, ⟨RX.out.below b', hr, b'⟩, (CX.out.below b').2⟩
      have ESX : Hid (∀ (s1 s2 : Option Addr) (l1 l2 B : Nat) (u : World), RunB o w1.heap.size u g1 g2 ∧ RunB o B u s1 s2 ∧ Below X.heap.size X u → Calls Try.prog 17 #[.agg #[.slice g1 o.reads.length e1, .slice g2 o.puts.length e2, .int .i64 o.val, .int .i64 o.code], .agg #[.slice s1 o.reads.length l1, .slice s2 o.puts.length l2, .int .i64 o.val, .int .i64 o.code]] u fun e w' => e = .returned (.bool true) ∧ Hid (Below X.heap.size X w') ∧ (w'.cell? ⟨w5.heap.size, 0, none⟩ = some (.slice g1 o.reads.length e1) ∧ w'.cell? ⟨w5.heap.size, 1, none⟩ = some (.slice g2 o.puts.length e2) ∧ w'.cell? ⟨w5.heap.size, 2, none⟩ = some (.int .i64 o.val) ∧ w'.cell? ⟨w5.heap.size, 3, none⟩ = some (.int .i64 o.code))) := fun s1 s2 l1 l2 B u ⟨h1, h2, h3⟩ => by
        refine Calls.mono (ES.out g1 g2 s1 s2 e1 e2 l1 l2 u h1.reads.sl h1.puts.sl h2.reads.sl h2.puts.sl) ?_
        rintro e w' ⟨rfl, hb⟩
        have b' : Below X.heap.size X w' := h3.trans (hb.mono h3.size)
        exact ⟨rfl, b', (CX.out.below b').2⟩
      have EOX : Hid (∀ u : World, Below X.heap.size X u → Calls Try.prog 19 #[.agg #[.slice g1 o.reads.length e1, .slice g2 o.puts.length e2, .int .i64 o.val, .int .i64 o.code]] u fun e w' => e = .returned (.bool true) ∧ Hid (Below X.heap.size X w') ∧ (w'.cell? ⟨w5.heap.size, 0, none⟩ = some (.slice g1 o.reads.length e1) ∧ w'.cell? ⟨w5.heap.size, 1, none⟩ = some (.slice g2 o.puts.length e2) ∧ w'.cell? ⟨w5.heap.size, 2, none⟩ = some (.int .i64 o.val) ∧ w'.cell? ⟨w5.heap.size, 3, none⟩ = some (.int .i64 o.code))) := fun u hu => by
        have := implExecOk g1 g2 e1 e2 o.reads o.puts o.val o.code u (RX.out.below hu).reads.sl (RX.out.below hu).puts.sl (by omega) (by omega)
        rw [EOK.out] at this
        refine Calls.mono this ?_
        rintro e w' ⟨rfl, hb⟩
        have b' : Below X.heap.size X w' := hu.trans (hb.mono hu.size)
        exact ⟨rfl, b', (CX.out.below b').2⟩
      go_cut [40] from 30 to 40 (fun x wx => x = .bool false ∧ Below X.heap.size X wx)
      case first =>
        have BB : Hid (Below X.heap.size X X) := Below.refl _ _
        go_region_held3 (fun w' : World => w'.cell? ⟨w5.heap.size, 0, none⟩ = some (.slice g1 o.reads.length e1) ∧ w'.cell? ⟨w5.heap.size, 1, none⟩ = some (.slice g2 o.puts.length e2) ∧ w'.cell? ⟨w5.heap.size, 2, none⟩ = some (.int .i64 o.val) ∧ w'.cell? ⟨w5.heap.size, 3, none⟩ = some (.int .i64 o.code)) (first | assumption | go_keep) (first | (go_at_call 18; refine Calls.mono (SRX.out _ (below_drewN BB.out 1)) ?_; rintro e w6 ⟨s1, l1, s2, l2, rfl, H6, hS6⟩) | (go_at_call 17; refine Calls.mono (ESX.out _ _ _ _ _ _ H6.out) ?_; rintro e w7 ⟨rfl, H7, hS7⟩) | (go_at_call 19; refine Calls.mono (EOX.out _ H7.out) ?_; rintro e w8 ⟨rfl, H8, hS8⟩))
        go_wp2_with fail
        go_meet
        exact ⟨rfl, H8.out⟩
      case rest =>
        rename World => V
        obtain ⟨rfl, hB⟩ := hcut
        have CV : Hid (C4 V w5.heap.size (.slice g1 o.reads.length e1) (.slice g2 o.puts.length e2) (.int .i64 o.val) (.int .i64 o.code)) := CX.out.below hB
        have RV : Hid (RunB o w1.heap.size V g1 g2) := RX.out.below hB
        have KV : Hid (Below w1.heap.size w1 V) := KX.out.trans (hB.mono KX.out.size)
        clear hB q0 q1 q2 q3 SRX ESX EOX
        go_wp2_with fail
        refine (specOk (some ⟨gb, 0, none⟩) 4 bs V (X1.out.below KV.out) nb).mono ?_
        rintro e V2 ⟨rfl, hV⟩
        subst hV
        cases hbo : boxOk bs with
        | false =>
          have h3 := FORM.out (by rw [hbo]; rfl)
          have h3' : (o.code == 3) = true := by simpa using h3
          obtain ⟨_, q0, q1, q2, q3⟩ := CV.out
          clear h3
          go_wp2_with fail
          go_ret
          exact ⟨rfl, B1.out.trans (KV.out.mono B1.out.size)⟩
        | true =>
          go_wp2_with fail
          refine (specProgOk (some ⟨g, 0, none⟩) cap xs V2 (Y1.out.below KV.out) nx).mono ?_
          rintro e V3 ⟨rfl, b3⟩
          have KV3 : Hid (Below w1.heap.size w1 V3) := KV.out.trans (b3.mono KV.out.size)
          have CV3 : Hid (C4 V3 w5.heap.size (.slice g1 o.reads.length e1) (.slice g2 o.puts.length e2) (.int .i64 o.val) (.int .i64 o.code)) := CV.out.below b3
          have RV3 : Hid (RunB o w1.heap.size V3 g1 g2) := RV.out.below b3
          clear b3
          cases hpo : progOk xs with
          | false =>
            have h3 := FORM.out (by rw [hbo, hpo]; rfl)
            have h3' : (o.code == 3) = true := by simpa using h3
            obtain ⟨_, q0, q1, q2, q3⟩ := CV3.out
            clear h3
            go_wp2_with fail
            go_ret
            exact ⟨rfl, B1.out.trans (KV3.out.mono B1.out.size)⟩
          | true =>
            have L : Hid (bs.length = 4) := boxOk_len hbo
            have HBO : Hid (boxOk bs = true) := hbo
            have HPO : Hid (progOk xs = true) := hpo
            clear hbo hpo
            obtain ⟨U, hU⟩ : ∃ U, U = V3.alloc (.cells #[.bool false, .bool false, .bool false, .bool false] 36) := ⟨_, rfl⟩
            have SU : Hid (Saw U V3.heap.size []) := by show Saw _ _ _; rw [hU]; exact Saw.new _ _
            have BU : Hid (Below V3.heap.size V3 U) := by show Below _ _ _; rw [hU]; exact below_new _ _
            have HU : Hid (U = _) := hU
            clear hU
            go_upto_region 10 with fail
            rw [← HU.out]
            go_wp2_with fail
            go_loopw [9] (fun i wr => ∃ k : Nat, k ≤ o.reads.length ∧ i = .int .i64 k ∧ Hid (Saw wr V3.heap.size (o.reads.take k)) ∧ Below V3.heap.size V3 wr) (fun i _ => o.reads.length - (intOf i).toNat)
            case atStart => exact ⟨0, Nat.zero_le _, rfl, SU, BU.out⟩
            case round =>
              obtain ⟨k, hk, rfl, hS, hB⟩ := hrel
              have BR : Hid (Below V3.heap.size V3 wr) := hB
              obtain ⟨_, q0, q1, q2, q3⟩ := CV3.out.below hB
              clear hB q1 q2 q3
              by_cases hlt : k < o.reads.length
              · have hki : (k : Int) < (o.reads.length : Int) := by omega
                rcases RV3.out.reads.sl.below BR.out with h | ⟨b1, o1, rfl, h1⟩
                · rw [h] at hlt; simp at hlt
                obtain ⟨ca, cb⟩ := h1.2 k hlt
                obtain ⟨j, hj, ej⟩ := R4.out k hlt
                rw [ej] at ca
                have cj := hS.out.at4 j hj
                have fj := hS.out.free j
                have hj0 : (0 : Int) ≤ (j : Int) := by omega
                have hj4 : (j : Int) < 4 := by omega
                have N : Hid (Saw (wr.setCell ⟨V3.heap.size, j, none⟩ (.bool true)) V3.heap.size (o.reads.take (k + 1))) := hS.out.set hlt hj ej
                have NB : Hid (Below V3.heap.size V3 (wr.setCell ⟨V3.heap.size, j, none⟩ (.bool true))) := BR.out.setCell (Nat.le_refl _) _
                clear h1 ej
                generalize hasBox (o.reads.take k) j = bb at cj
                go_wp2_with fail
                go_roundw
                case rel => exact ⟨k + 1, by omega, by go_num, N, NB.out⟩
                case measure => simp [intOf]; omega
              · have hki : ¬ (k : Int) < (o.reads.length : Int) := by omega
                have SW' : Hid (Saw wr V3.heap.size o.reads) := by
                  have := hS.out
                  rw [show k = o.reads.length by omega, List.take_length] at this
                  exact this
                have AB : Hid (BoxAt wr gb 0 bs) := (Z1.out.below KV3.out).below BR.out
                obtain ⟨i0, hi, hz0, hz1, hz2⟩ := info_parts infoBoxO
                have I0 : Hid (Try.prog.info? 40 = some i0 ∧ i0.zero = some (.agg #[.int .i64 0, .int .i64 0]) ∧ i0.size = 2 ∧ i0.bytes = 16) := ⟨hi, hz0, hz1, hz2⟩
                clear hi hz0 hz1 hz2 hS
                go_wp2_with (at_builtin; refine wpList_append_own _ rfl (.tmp 67) (.tmp 68) 23 rfl wr.heap.size 40 i0 (.agg #[.int .i64 0, .int .i64 0]) 2 16 Try.underlying23 I0.out.1 I0.out.2.1 I0.out.2.2.1 I0.out.2.2.2 rfl (by decide) (.slice (some ⟨wr.heap.size, 0, none⟩) 0 0) 0 [] rfl (own_empty wr wr.heap.size rfl) ⟨gb, 0, none⟩ bs.length 4 (flat bs) rfl (flat_length bs) (flat_atO (AB.out.below ((Below.refl _ _).alloc (Nat.le_refl _) _))) (flat_one bs) (small_max (by rw [L.out]; omega)) (by rw [L.out]; omega) (by rw [size_new]; omega) ?_)
                intro v1 w6 hown hgr _
                obtain ⟨G, capG, rfl, hG, hcapG, hatG, hfrG, hbG⟩ := grown_box rfl (by rw [L.out]; omega) hown hgr
                have SG : Hid (Saw w6 V3.heap.size o.reads) := SW'.out.turned (L := []) (Turned.ofBelow hbG) (by simp)
                have AG : Hid (BoxAt w6 G 0 bs ∧ ∀ o, w6.frozen? ⟨G, o, none⟩ = false) := ⟨hatG, hfrG⟩
                have BG : Hid (Below V3.heap.size V3 w6) := BR.out.trans (hbG.mono BR.out.size)
                have hGA : ¬ G = V3.heap.size := by have := SW'.out.lt; omega
                have hGB : V3.heap.size ≤ G := by have := SW'.out.lt; omega
                have HGC : Hid (bs.length ≤ capG) := hcapG
                clear hown hgr hatG hfrG hbG hG hcapG q0 hki hk
                go_wp2_with fail
                go_loopw [11] (fun i wq => ∃ k : Nat, k ≤ 4 ∧ i = .int .i64 k ∧ ∃ cur, Hid (Mixed bs o.reads ((m7 : Int), (m50 : Int)) k cur) ∧ Hid (Saw wq V3.heap.size o.reads) ∧ Hid (BoxAt wq G 0 cur ∧ ∀ o, wq.frozen? ⟨G, o, none⟩ = false) ∧ Below V3.heap.size V3 wq) (fun i _ => 4 - (intOf i).toNat)
                case atStart => exact ⟨0, Nat.zero_le _, rfl, bs, Mixed.init L.out, SG, AG, BG.out⟩
                case round =>
                  rename World => wq
                  obtain ⟨k, hk, rfl, cur, hM, hS, hA, hB⟩ := hrel
                  have BQ : Hid (Below V3.heap.size V3 wq) := hB
                  clear hB
                  by_cases hlt : k < 4
                  · have hki : (k : Int) < (bs.length : Int) := by have := L.out; omega
                    have hk4 : (k : Int) < 4 := by omega
                    have cj := hS.out.at4 k hlt
                    cases hh : hasBox o.reads k with
                    | true =>
                      rw [hh] at cj
                      have N : Hid (Mixed bs o.reads ((m7 : Int), (m50 : Int)) (k + 1) cur) := hM.out.keep hh
                      clear hh
                      go_wp2_with fail
                      go_roundw
                      case rel => exact ⟨k + 1, by omega, by go_num, cur, N, hS, hA, BQ.out⟩
                      case measure => simp [intOf]; omega
                    | false =>
                      rw [hh] at cj
                      have N : Hid (Mixed bs o.reads ((m7 : Int), (m50 : Int)) (k + 1) (cur.set k ((m7 : Int), (m50 : Int)))) := hM.out.put hlt hh
                      have hcl : k < cur.length := by rw [hM.out.1]; exact hlt
                      obtain ⟨ca, cb⟩ := hA.out.1.2 k hcl
                      have f0 := hA.out.2 (k * 2)
                      have f1' := hA.out.2 (k * 2 + 1)
                      have NA : Hid (BoxAt ((wq.setCell ⟨G, 0 + k * 2, none⟩ (.int .i64 (m7 : Int))).setCell ⟨G, 0 + k * 2 + 1, none⟩ (.int .i64 (m50 : Int))) G 0 (cur.set k ((m7 : Int), (m50 : Int)))) := hA.out.1.setBoth k hcl _ _
                      have NF : Hid (∀ o, ((wq.setCell ⟨G, k * 2, none⟩ (.int .i64 (m7 : Int))).setCell ⟨G, k * 2 + 1, none⟩ (.int .i64 (m50 : Int))).frozen? ⟨G, o, none⟩ = false) := fun o => by simpa using hA.out.2 o
                      have NS : Hid (Saw ((wq.setCell ⟨G, k * 2, none⟩ (.int .i64 (m7 : Int))).setCell ⟨G, k * 2 + 1, none⟩ (.int .i64 (m50 : Int))) V3.heap.size o.reads) := (hS.out.other (p := ⟨G, k * 2, none⟩) hGA _).other (p := ⟨G, k * 2 + 1, none⟩) hGA _
                      have NB : Hid (Below V3.heap.size V3 ((wq.setCell ⟨G, k * 2, none⟩ (.int .i64 (m7 : Int))).setCell ⟨G, k * 2 + 1, none⟩ (.int .i64 (m50 : Int)))) := (BQ.out.setCell (p := ⟨G, k * 2, none⟩) hGB _).setCell (p := ⟨G, k * 2 + 1, none⟩) hGB _
                      simp only [Nat.zero_add] at ca cb NA
                      generalize (cur.getD k (0, 0)).1 = x0 at ca
                      generalize (cur.getD k (0, 0)).2 = x1 at cb
                      clear hh hcl
                      go_wp2_with fail
                      go_roundw
                      case rel => exact ⟨k + 1, by omega, by go_num, _, N, NS, ⟨NA.out, NF.out⟩, NB.out⟩
                      case measure => simp [intOf]; omega
                  · have hk4 : k = 4 := by omega
                    subst hk4
                    have hki : ¬ ((4 : Nat) : Int) < (bs.length : Int) := by have := L.out; omega
                    obtain ⟨eo, fo⟩ := OT.out cur HBO.out HPO.out hM.out
                    have hcl : cur.length = bs.length := by rw [hM.out.1, L.out]
                    have KQ : Hid (Below w1.heap.size w1 wq) := KV3.out.trans (BQ.out.mono KV3.out.size)
                    have IC : Hid (∀ u, Below wq.heap.size wq u → Calls Try.prog 16 #[.slice (some ⟨G, 0, none⟩) bs.length capG, .slice (some ⟨g, 0, none⟩) xs.length cap] u fun e w' => ∃ s1 l1 s2 l2, e = .returned (.agg #[.slice s1 o.reads.length l1, .slice s2 o.puts.length l2, .int .i64 o.val, .int .i64 o.code]) ∧ Hid (RunB o u.heap.size w' s1 s2 ∧ Below wq.heap.size wq w') ∧ (w'.cell? ⟨w5.heap.size, 0, none⟩ = some (.slice g1 o.reads.length e1) ∧ w'.cell? ⟨w5.heap.size, 1, none⟩ = some (.slice g2 o.puts.length e2) ∧ w'.cell? ⟨w5.heap.size, 2, none⟩ = some (.int .i64 o.val) ∧ w'.cell? ⟨w5.heap.size, 3, none⟩ = some (.int .i64 o.code))) := fun u hu => by
                      have := implRun (some ⟨G, 0, none⟩) (some ⟨g, 0, none⟩) capG cap cur xs u (.inr ⟨G, 0, rfl, hA.out.1.below hu⟩) (Y1.out.below (KQ.out.trans (hu.mono KQ.out.size))) (by rw [hcl]; exact HGC.out) nx
                      rw [eo, hcl] at this
                      refine Calls.mono this ?_
                      rintro e w' ⟨hp, hb⟩
                      obtain ⟨s1, l1, s2, l2, rfl, hr⟩ := hp.open
                      have b' : Below wq.heap.size wq w' := hu.trans (hb.mono hu.size)
                      exact ⟨s1, l1, s2, l2, rfl, ⟨hr, b'⟩, (CV3.out.below (BQ.out.trans (b'.mono BQ.out.size))).2⟩
                    have IS : Hid (∀ (s1 s2 : Option Addr) (l1 l2 B : Nat) (u : World), RunB o B u s1 s2 ∧ Below wq.heap.size wq u → Calls Try.prog 17 #[.agg #[.slice s1 o.reads.length l1, .slice s2 o.puts.length l2, .int .i64 o.val, .int .i64 o.code], .agg #[.slice g1 o.reads.length e1, .slice g2 o.puts.length e2, .int .i64 o.val, .int .i64 o.code]] u fun e w' => e = .returned (.bool true) ∧ Hid (Below wq.heap.size wq w') ∧ (w'.cell? ⟨w5.heap.size, 0, none⟩ = some (.slice g1 o.reads.length e1) ∧ w'.cell? ⟨w5.heap.size, 1, none⟩ = some (.slice g2 o.puts.length e2) ∧ w'.cell? ⟨w5.heap.size, 2, none⟩ = some (.int .i64 o.val) ∧ w'.cell? ⟨w5.heap.size, 3, none⟩ = some (.int .i64 o.code))) := fun s1 s2 l1 l2 B u ⟨h2, h3⟩ => by
                      have h1 := RV3.out.below (BQ.out.trans (h3.mono BQ.out.size))
                      refine Calls.mono (ES.out s1 s2 g1 g2 l1 l2 e1 e2 u h2.reads.sl h2.puts.sl h1.reads.sl h1.puts.sl) ?_
                      rintro e w' ⟨rfl, hb⟩
                      have b' : Below wq.heap.size wq w' := h3.trans (hb.mono h3.size)
                      exact ⟨rfl, b', (CV3.out.below (BQ.out.trans (b'.mono BQ.out.size))).2⟩
                    have F1 : Hid (∀ u : World, Below wq.heap.size wq u → Calls Try.prog 24 #[.slice (some ⟨gb, 0, none⟩) bs.length 4, .agg #[.slice g1 o.reads.length e1, .slice g2 o.puts.length e2, .int .i64 o.val, .int .i64 o.code]] u fun e w' => e = .returned (.bool true) ∧ Hid (Below wq.heap.size wq w') ∧ (w'.cell? ⟨w5.heap.size, 0, none⟩ = some (.slice g1 o.reads.length e1) ∧ w'.cell? ⟨w5.heap.size, 1, none⟩ = some (.slice g2 o.puts.length e2) ∧ w'.cell? ⟨w5.heap.size, 2, none⟩ = some (.int .i64 o.val) ∧ w'.cell? ⟨w5.heap.size, 3, none⟩ = some (.int .i64 o.code))) := fun u hu => by
                      have h1 := RV3.out.below (BQ.out.trans (hu.mono BQ.out.size))
                      have := implExecFresh (some ⟨gb, 0, none⟩) 4 bs g1 g2 e1 e2 o.reads o.puts o.val o.code u (X1.out.below (KQ.out.trans (hu.mono KQ.out.size))) lb h1.reads.sl h1.puts.sl (by omega) (by omega)
                      rw [FR.out HBO.out HPO.out] at this
                      refine Calls.mono this ?_
                      rintro e w' ⟨rfl, hb⟩
                      have b' : Below wq.heap.size wq w' := hu.trans (hb.mono hu.size)
                      exact ⟨rfl, b', (CV3.out.below (BQ.out.trans (b'.mono BQ.out.size))).2⟩
                    have F2 : Hid (∀ u : World, Below wq.heap.size wq u → Calls Try.prog 24 #[.slice (some ⟨G, 0, none⟩) bs.length capG, .agg #[.slice g1 o.reads.length e1, .slice g2 o.puts.length e2, .int .i64 o.val, .int .i64 o.code]] u fun e w' => e = .returned (.bool true) ∧ Hid (Below wq.heap.size wq w') ∧ (w'.cell? ⟨w5.heap.size, 0, none⟩ = some (.slice g1 o.reads.length e1) ∧ w'.cell? ⟨w5.heap.size, 1, none⟩ = some (.slice g2 o.puts.length e2) ∧ w'.cell? ⟨w5.heap.size, 2, none⟩ = some (.int .i64 o.val) ∧ w'.cell? ⟨w5.heap.size, 3, none⟩ = some (.int .i64 o.code))) := fun u hu => by
                      have h1 := RV3.out.below (BQ.out.trans (hu.mono BQ.out.size))
                      have := implExecFresh (some ⟨G, 0, none⟩) capG cur g1 g2 e1 e2 o.reads o.puts o.val o.code u (.inr ⟨G, 0, rfl, hA.out.1.below hu⟩) (by rw [hcl]; exact HGC.out) h1.reads.sl h1.puts.sl (by omega) (by omega)
                      rw [fo, hcl] at this
                      refine Calls.mono this ?_
                      rintro e w' ⟨rfl, hb⟩
                      have b' : Below wq.heap.size wq w' := hu.trans (hb.mono hu.size)
                      exact ⟨rfl, b', (CV3.out.below (BQ.out.trans (b'.mono BQ.out.size))).2⟩
                    have PL : Hid (∀ u, Below wq.heap.size wq u → Calls Try.prog 22 #[.slice (some ⟨g, 0, none⟩) xs.length cap] u fun e w' => (∃ al cl, e = .returned (.slice al (boxesTo loadsQ xs 4).length cl)) ∧ Hid (Below wq.heap.size wq w')) := fun u hu => by
                      refine (implProgLoads _ cap xs nx u (Y1.out.below (KQ.out.trans (hu.mono KQ.out.size)))).mono ?_
                      rintro e w' ⟨⟨v, rfl, ow⟩, b'⟩
                      obtain ⟨al, cl, rfl, _, _⟩ := OwnI.open (ys := boxesTo loadsQ xs 4) ow
                      exact ⟨⟨al, cl, rfl⟩, hu.trans (b'.mono hu.size)⟩
                    have PP : Hid (∀ u, Below wq.heap.size wq u → Calls Try.prog 23 #[.slice (some ⟨g, 0, none⟩) xs.length cap] u fun e w' => (∃ al cl, e = .returned (.slice al (boxesTo putsQ xs 4).length cl)) ∧ Hid (Below wq.heap.size wq w')) := fun u hu => by
                      refine (implProgPuts _ cap xs nx u (Y1.out.below (KQ.out.trans (hu.mono KQ.out.size)))).mono ?_
                      rintro e w' ⟨⟨v, rfl, ow⟩, b'⟩
                      obtain ⟨al, cl, rfl, _, _⟩ := OwnI.open (ys := boxesTo putsQ xs 4) ow
                      exact ⟨⟨al, cl, rfl⟩, hu.trans (b'.mono hu.size)⟩
                    obtain ⟨fw1, fw2⟩ := FW.out
                    have LP : (boxesTo putsQ xs 4).length ≤ 4 := boxesTo_len' putsQ xs 4
                    have LL : (boxesTo loadsQ xs 4).length ≤ 4 := boxesTo_len' loadsQ xs 4
                    clear FW
                    generalize (boxesTo putsQ xs 4).length = P at fw2 LP PP
                    generalize (boxesTo loadsQ xs 4).length = Q at fw1 LL PL
                    have d1 : decide ((o.reads.length : Int) ≤ (Q : Int)) = true := by simp; omega
                    have d2 : decide ((o.puts.length : Int) ≤ (P : Int)) = true := by simp; omega
                    clear eo fo hcl hM hS
                    go_wp2_with fail
                    refine Calls.mono (PL.out wq (Below.refl _ _)) ?_
                    rintro e w8 ⟨⟨al, cl, rfl⟩, H8⟩
                    go_wp2_with fail
                    refine Calls.mono (PP.out w8 H8.out) ?_
                    rintro e w9 ⟨⟨ap, cp, rfl⟩, H9⟩
                    obtain ⟨_, q0, q1, q2, q3⟩ := CV3.out.below (BQ.out.trans (H9.out.mono BQ.out.size))
                    go_upto_region 22 with fail
                    clear IR SR R4 EOK FORM FR OT ES CX RX HX KX CV RV KV HU SU BU SW' AB I0 SG AG BG PL PP ZOK
                    refine wp_region_held_drew (S := (fun w' : World => w'.cell? ⟨w5.heap.size, 0, none⟩ = some (.slice g1 o.reads.length e1) ∧ w'.cell? ⟨w5.heap.size, 1, none⟩ = some (.slice g2 o.puts.length e2) ∧ w'.cell? ⟨w5.heap.size, 2, none⟩ = some (.int .i64 o.val) ∧ w'.cell? ⟨w5.heap.size, 3, none⟩ = some (.int .i64 o.code))) (by kernel_rfl) ⟨q0, q1, q2, q3⟩ (fun hHeld => ?_)
                    refine wpAnyH_take (i := 0) (v := ?v0) rfl (by kernel_rfl) (by kernel_rfl) (by kernel_rfl) (fun _ _ _ h => h) (Or.inl ⟨by rfl, ?y0⟩) (by assumption) ?r0
                    case y0 =>
                      intro w' hSw
                      try dsimp only at hSw
                      go_simp
                      try with_reducible rfl
                    simp only [Act.put, List.getElem_toArray, List.getElem_cons_succ, List.getElem_cons_zero, List.setIfInBounds_toArray, List.set_cons_zero, List.set_cons_succ]
                    refine wpAnyH_take (i := 1) (v := ?v1) rfl (by kernel_rfl) (by kernel_rfl) (by kernel_rfl) (fun _ _ _ h => h) (Or.inl ⟨by rfl, ?y1⟩) (by assumption) ?r1
                    case y1 =>
                      intro w' hSw
                      try dsimp only at hSw
                      go_simp
                      try with_reducible rfl
                    simp only [Act.put, List.getElem_toArray, List.getElem_cons_succ, List.getElem_cons_zero, List.setIfInBounds_toArray, List.set_cons_zero, List.set_cons_succ]
                    refine wpAnyH_take (i := 3) (v := ?v3) rfl (by kernel_rfl) (by kernel_rfl) (by kernel_rfl) (fun _ _ _ h => h) (Or.inl ⟨by rfl, ?y3⟩) (by assumption) ?r3
                    case y3 =>
                      intro w' hSw
                      try dsimp only at hSw
                      go_simp
                      try with_reducible rfl
                    simp only [Act.put, List.getElem_toArray, List.getElem_cons_succ, List.getElem_cons_zero, List.setIfInBounds_toArray, List.set_cons_zero, List.set_cons_succ]
                    refine wpAnyH_ready (rs := [2]) (by kernel_rfl) (by simp) ?_
                    refine AllReadyH.cons rfl (fun K hK => ?_) AllReadyH.nil
                    go_simp
                    refine Calls.mono (IC.out _ (below_drewN H9.out 1)) ?_
                    rintro e w10 ⟨s1, l1, s2, l2, rfl, H10, hS10⟩
                    refine hK.out _ _ hS10 (fun hHeld2 => ?_)
                    clear hK K hHeld hS10
                    refine wpAnyH_ready (rs := [4]) (by kernel_rfl) (by simp) ?_
                    refine AllReadyH.cons rfl (fun K hK => ?_) AllReadyH.nil
                    go_simp
                    refine Calls.mono (IS.out _ _ _ _ _ _ H10.out) ?_
                    rintro e w11 ⟨rfl, H11, hS11⟩
                    refine hK.out _ _ hS11 (fun hHeld3 => ?_)
                    clear hK K hHeld2 hS11
                    refine wpAnyH_take (i := 5) (v := ?v5) rfl (by kernel_rfl) (by kernel_rfl) (by kernel_rfl) (fun _ _ _ h => h) (Or.inl ⟨by rfl, ?y5⟩) (by assumption) ?r5
                    case y5 =>
                      intro w' hSw
                      try dsimp only at hSw
                      go_simp
                      try with_reducible rfl
                    simp only [Act.put, List.getElem_toArray, List.getElem_cons_succ, List.getElem_cons_zero, List.setIfInBounds_toArray, List.set_cons_zero, List.set_cons_succ]
                    refine wpAnyH_take (i := 6) (v := ?v6) rfl (by kernel_rfl) (by kernel_rfl) (by kernel_rfl) (fun _ _ _ h => h) (Or.inl ⟨by rfl, ?y6⟩) (by assumption) ?r6
                    case y6 =>
                      intro w' hSw
                      try dsimp only at hSw
                      go_simp
                      try with_reducible rfl
                    simp only [Act.put, List.getElem_toArray, List.getElem_cons_succ, List.getElem_cons_zero, List.setIfInBounds_toArray, List.set_cons_zero, List.set_cons_succ]
                    refine wpAnyH_take (i := 7) (v := ?v7) rfl (by kernel_rfl) (by kernel_rfl) (by kernel_rfl) (fun _ _ _ h => h) (Or.inl ⟨by rfl, ?y7⟩) (by assumption) ?r7
                    case y7 =>
                      intro w' hSw
                      try dsimp only at hSw
                      go_simp
                      try with_reducible rfl
                    simp only [Act.put, List.getElem_toArray, List.getElem_cons_succ, List.getElem_cons_zero, List.setIfInBounds_toArray, List.set_cons_zero, List.set_cons_succ]
                    refine wpAnyH_take (i := 8) (v := ?v8) rfl (by kernel_rfl) (by kernel_rfl) (by kernel_rfl) (fun _ _ _ h => h) (Or.inl ⟨by rfl, ?y8⟩) (by assumption) ?r8
                    case y8 =>
                      intro w' hSw
                      try dsimp only at hSw
                      go_simp
                      try with_reducible rfl
                    simp only [Act.put, List.getElem_toArray, List.getElem_cons_succ, List.getElem_cons_zero, List.setIfInBounds_toArray, List.set_cons_zero, List.set_cons_succ]
                    refine wpAnyH_take (i := 9) (v := ?v9) rfl (by kernel_rfl) (by kernel_rfl) (by kernel_rfl) (fun _ _ _ h => h) (Or.inl ⟨by rfl, ?y9⟩) (by assumption) ?r9
                    case y9 =>
                      intro w' hSw
                      try dsimp only at hSw
                      go_simp
                      try with_reducible rfl
                    simp only [Act.put, List.getElem_toArray, List.getElem_cons_succ, List.getElem_cons_zero, List.setIfInBounds_toArray, List.set_cons_zero, List.set_cons_succ]
                    refine wpAnyH_take (i := 10) (v := ?v10) rfl (by kernel_rfl) (by kernel_rfl) (by kernel_rfl) (fun _ _ _ h => h) (Or.inl ⟨by rfl, ?y10⟩) (by assumption) ?r10
                    case y10 =>
                      intro w' hSw
                      try dsimp only at hSw
                      go_simp
                      try with_reducible rfl
                    simp only [Act.put, List.getElem_toArray, List.getElem_cons_succ, List.getElem_cons_zero, List.setIfInBounds_toArray, List.set_cons_zero, List.set_cons_succ]
                    refine wpAnyH_take (i := 11) (v := ?v11) rfl (by kernel_rfl) (by kernel_rfl) (by kernel_rfl) (fun _ _ _ h => h) (Or.inl ⟨by rfl, ?y11⟩) (by assumption) ?r11
                    case y11 =>
                      intro w' hSw
                      try dsimp only at hSw
                      go_simp
                      try with_reducible rfl
                    simp only [Act.put, List.getElem_toArray, List.getElem_cons_succ, List.getElem_cons_zero, List.setIfInBounds_toArray, List.set_cons_zero, List.set_cons_succ]
                    refine wpAnyH_take (i := 12) (v := ?v12) rfl (by kernel_rfl) (by kernel_rfl) (by kernel_rfl) (fun _ _ _ h => h) (Or.inl ⟨by rfl, ?y12⟩) (by assumption) ?r12
                    case y12 =>
                      intro w' hSw
                      try dsimp only at hSw
                      go_simp
                      try with_reducible rfl
                    simp only [Act.put, List.getElem_toArray, List.getElem_cons_succ, List.getElem_cons_zero, List.setIfInBounds_toArray, List.set_cons_zero, List.set_cons_succ]
                    refine wpAnyH_take (i := 13) (v := ?v13) rfl (by kernel_rfl) (by kernel_rfl) (by kernel_rfl) (fun _ _ _ h => h) (Or.inl ⟨by rfl, ?y13⟩) (by assumption) ?r13
                    case y13 =>
                      intro w' hSw
                      try dsimp only at hSw
                      go_simp
                      try with_reducible rfl
                    simp only [Act.put, List.getElem_toArray, List.getElem_cons_succ, List.getElem_cons_zero, List.setIfInBounds_toArray, List.set_cons_zero, List.set_cons_succ]
                    refine wpAnyH_take (i := 14) (v := ?v14) rfl (by kernel_rfl) (by kernel_rfl) (by kernel_rfl) (fun _ _ _ h => h) (Or.inl ⟨by rfl, ?y14⟩) (by assumption) ?r14
                    case y14 =>
                      intro w' hSw
                      try dsimp only at hSw
                      go_simp
                      try with_reducible rfl
                    simp only [Act.put, List.getElem_toArray, List.getElem_cons_succ, List.getElem_cons_zero, List.setIfInBounds_toArray, List.set_cons_zero, List.set_cons_succ]
                    refine wpAnyH_take (i := 15) (v := ?v15) rfl (by kernel_rfl) (by kernel_rfl) (by kernel_rfl) (fun _ _ _ h => h) (Or.inl ⟨by rfl, ?y15⟩) (by assumption) ?r15
                    case y15 =>
                      intro w' hSw
                      try dsimp only at hSw
                      go_simp
                      try with_reducible rfl
                    simp only [Act.put, List.getElem_toArray, List.getElem_cons_succ, List.getElem_cons_zero, List.setIfInBounds_toArray, List.set_cons_zero, List.set_cons_succ]
                    refine wpAnyH_take (i := 16) (v := ?v16) rfl (by kernel_rfl) (by kernel_rfl) (by kernel_rfl) (fun _ _ _ h => h) (Or.inl ⟨by rfl, ?y16⟩) (by assumption) ?r16
                    case y16 =>
                      intro w' hSw
                      try dsimp only at hSw
                      go_simp
                      try with_reducible rfl
                    simp only [Act.put, List.getElem_toArray, List.getElem_cons_succ, List.getElem_cons_zero, List.setIfInBounds_toArray, List.set_cons_zero, List.set_cons_succ]
                    refine wpAnyH_take (i := 17) (v := ?v17) rfl (by kernel_rfl) (by kernel_rfl) (by kernel_rfl) (fun _ _ _ h => h) (Or.inl ⟨by rfl, ?y17⟩) (by assumption) ?r17
                    case y17 =>
                      intro w' hSw
                      try dsimp only at hSw
                      go_simp
                      try with_reducible rfl
                    simp only [Act.put, List.getElem_toArray, List.getElem_cons_succ, List.getElem_cons_zero, List.setIfInBounds_toArray, List.set_cons_zero, List.set_cons_succ]
                    refine wpAnyH_take (i := 18) (v := ?v18) rfl (by kernel_rfl) (by kernel_rfl) (by kernel_rfl) (fun _ _ _ h => h) (Or.inl ⟨by rfl, ?y18⟩) (by assumption) ?r18
                    case y18 =>
                      intro w' hSw
                      try dsimp only at hSw
                      go_simp
                      try with_reducible rfl
                    simp only [Act.put, List.getElem_toArray, List.getElem_cons_succ, List.getElem_cons_zero, List.setIfInBounds_toArray, List.set_cons_zero, List.set_cons_succ]
                    refine wpAnyH_take (i := 19) (v := ?v19) rfl (by kernel_rfl) (by kernel_rfl) (by kernel_rfl) (fun _ _ _ h => h) (Or.inl ⟨by rfl, ?y19⟩) (by assumption) ?r19
                    case y19 =>
                      intro w' hSw
                      try dsimp only at hSw
                      go_simp
                      try with_reducible rfl
                    simp only [Act.put, List.getElem_toArray, List.getElem_cons_succ, List.getElem_cons_zero, List.setIfInBounds_toArray, List.set_cons_zero, List.set_cons_succ]
                    refine wpAnyH_take (i := 20) (v := ?v20) rfl (by kernel_rfl) (by kernel_rfl) (by kernel_rfl) (fun _ _ _ h => h) (Or.inl ⟨by rfl, ?y20⟩) (by assumption) ?r20
                    case y20 =>
                      intro w' hSw
                      try dsimp only at hSw
                      go_simp
                      try with_reducible rfl
                    simp only [Act.put, List.getElem_toArray, List.getElem_cons_succ, List.getElem_cons_zero, List.setIfInBounds_toArray, List.set_cons_zero, List.set_cons_succ]
                    refine wpAnyH_take (i := 21) (v := ?v21) rfl (by kernel_rfl) (by kernel_rfl) (by kernel_rfl) (fun _ _ _ h => h) (Or.inl ⟨by rfl, ?y21⟩) (by assumption) ?r21
                    case y21 =>
                      intro w' hSw
                      try dsimp only at hSw
                      go_simp
                      try with_reducible rfl
                    simp only [Act.put, List.getElem_toArray, List.getElem_cons_succ, List.getElem_cons_zero, List.setIfInBounds_toArray, List.set_cons_zero, List.set_cons_succ]
                    refine wpAnyH_take (i := 22) (v := ?v22) rfl (by kernel_rfl) (by kernel_rfl) (by kernel_rfl) (fun _ _ _ h => h) (Or.inl ⟨by rfl, ?y22⟩) (by assumption) ?r22
                    case y22 =>
                      intro w' hSw
                      try dsimp only at hSw
                      go_simp
                      try with_reducible rfl
                    simp only [Act.put, List.getElem_toArray, List.getElem_cons_succ, List.getElem_cons_zero, List.setIfInBounds_toArray, List.set_cons_zero, List.set_cons_succ]
                    refine wpAnyH_take (i := 23) (v := ?v23) rfl (by kernel_rfl) (by kernel_rfl) (by kernel_rfl) (fun _ _ _ h => h) (Or.inl ⟨by rfl, ?y23⟩) (by assumption) ?r23
                    case y23 =>
                      intro w' hSw
                      try dsimp only at hSw
                      go_simp
                      try with_reducible rfl
                    simp only [Act.put, List.getElem_toArray, List.getElem_cons_succ, List.getElem_cons_zero, List.setIfInBounds_toArray, List.set_cons_zero, List.set_cons_succ]
                    refine wpAnyH_ready (rs := [24]) (by kernel_rfl) (by simp) ?_
                    refine AllReadyH.cons rfl (fun K hK => ?_) AllReadyH.nil
                    go_simp
                    refine Calls.mono (F1.out _ H11.out) ?_
                    rintro e w12 ⟨rfl, H12, hS12⟩
                    refine hK.out _ _ hS12 (fun hHeld4 => ?_)
                    clear hK K hHeld3 hS12
                    refine wpAnyH_take (i := 25) (v := ?v25) rfl (by kernel_rfl) (by kernel_rfl) (by kernel_rfl) (fun _ _ _ h => h) (Or.inl ⟨by rfl, ?y25⟩) (by assumption) ?r25
                    case y25 =>
                      intro w' hSw
                      try dsimp only at hSw
                      go_simp
                      try with_reducible rfl
                    simp only [Act.put, List.getElem_toArray, List.getElem_cons_succ, List.getElem_cons_zero, List.setIfInBounds_toArray, List.set_cons_zero, List.set_cons_succ]
                    refine wpAnyH_take (i := 26) (v := ?v26) rfl (by kernel_rfl) (by kernel_rfl) (by kernel_rfl) (fun _ _ _ h => h) (Or.inl ⟨by rfl, ?y26⟩) (by assumption) ?r26
                    case y26 =>
                      intro w' hSw
                      try dsimp only at hSw
                      go_simp
                      try with_reducible rfl
                    simp only [Act.put, List.getElem_toArray, List.getElem_cons_succ, List.getElem_cons_zero, List.setIfInBounds_toArray, List.set_cons_zero, List.set_cons_succ]
                    refine wpAnyH_take (i := 27) (v := ?v27) rfl (by kernel_rfl) (by kernel_rfl) (by kernel_rfl) (fun _ _ _ h => h) (Or.inl ⟨by rfl, ?y27⟩) (by assumption) ?r27
                    case y27 =>
                      intro w' hSw
                      try dsimp only at hSw
                      go_simp
                      try with_reducible rfl
                    simp only [Act.put, List.getElem_toArray, List.getElem_cons_succ, List.getElem_cons_zero, List.setIfInBounds_toArray, List.set_cons_zero, List.set_cons_succ]
                    refine wpAnyH_take (i := 28) (v := ?v28) rfl (by kernel_rfl) (by kernel_rfl) (by kernel_rfl) (fun _ _ _ h => h) (Or.inl ⟨by rfl, ?y28⟩) (by assumption) ?r28
                    case y28 =>
                      intro w' hSw
                      try dsimp only at hSw
                      go_simp
                      try with_reducible rfl
                    simp only [Act.put, List.getElem_toArray, List.getElem_cons_succ, List.getElem_cons_zero, List.setIfInBounds_toArray, List.set_cons_zero, List.set_cons_succ]
                    refine wpAnyH_ready (rs := [29]) (by kernel_rfl) (by simp) ?_
                    refine AllReadyH.cons rfl (fun K hK => ?_) AllReadyH.nil
                    go_simp
                    refine Calls.mono (F2.out _ H12.out) ?_
                    rintro e w13 ⟨rfl, H13, hS13⟩
                    refine hK.out _ _ hS13 (fun hHeld5 => ?_)
                    clear hK K hHeld4 hS13
                    refine wpAnyH_take (i := 30) (v := ?v30) rfl (by kernel_rfl) (by kernel_rfl) (by kernel_rfl) (fun _ _ _ h => h) (Or.inl ⟨by rfl, ?y30⟩) (by assumption) ?r30
                    case y30 =>
                      intro w' hSw
                      try dsimp only at hSw
                      go_simp
                      try with_reducible rfl
                    simp only [Act.put, List.getElem_toArray, List.getElem_cons_succ, List.getElem_cons_zero, List.setIfInBounds_toArray, List.set_cons_zero, List.set_cons_succ]
                    refine wpAnyH_take (i := 31) (v := ?v31) rfl (by kernel_rfl) (by kernel_rfl) (by kernel_rfl) (fun _ _ _ h => h) (Or.inl ⟨by rfl, ?y31⟩) (by assumption) ?r31
                    case y31 =>
                      intro w' hSw
                      try dsimp only at hSw
                      go_simp
                      try with_reducible rfl
                    simp only [Act.put, List.getElem_toArray, List.getElem_cons_succ, List.getElem_cons_zero, List.setIfInBounds_toArray, List.set_cons_zero, List.set_cons_succ]
                    refine wpAnyH_done (by kernel_rfl) ?_ _
                    go_wp2_with fail
                    go_ret
                    exact ⟨rfl, B1.out.trans ((KQ.out.trans (H13.out.mono KQ.out.size)).mono B1.out.size)⟩
    · have hd2 : decide ((1048576 : Int) < (n' : Int)) = true := by simp; omega
      go_enter Try.func3, Try.ntmps3
      go_wp2_with fail
      go_ret
      exact ⟨rfl, Below.refl _ _⟩
  · have hd : decide ((1048576 : Int) < (n : Int)) = true := by simp; omega
    go_enter Try.func3, Try.ntmps3
    go_wp2_with fail
    go_ret
    exact ⟨rfl, Below.refl _ _⟩
end Go.Proofs.Ytiibonnchmphcaa.Own
