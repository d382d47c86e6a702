/-
  Own text: laws.FnAccTwo.
-/
import Derived.Test.YtfifiobcmdmefaaPk11
import Derived.Deep.Cut
import Derived.Deep.CutRange
namespace Go.Proofs.Ytfifiobcmdmefaa.Own
open Go.RowKit
set_option linter.unusedVariables false
set_option linter.unusedSimpArgs false

theorem LV.vc {w : World} {B T K : Nat} {a : Option Addr} {c : Nat} {L : List VM} (h : LV w B T (.slice a K c) L) (hn : L.length = K) {k : Nat} (hk : k < K) : ∃ g, a = some ⟨g, 0, none⟩ ∧ C8 w g (k * 8) (L.getD k v0) ∧ (∀ o, w.frozen? ⟨g, o, none⟩ = false) ∧ g < T ∧ B ≤ g := by
  obtain ⟨g, rfl, hv, _, hT⟩ := h.row hn (by omega)
  exact ⟨g, rfl, hv.cell k (by omega), hv.fr, hT, hv.lo⟩
theorem bal_at {L : List VM} {A : List V} (h : bodies L = A) (k : Nat) : (L.getD k v0).bal = (A.getD k (0, e0)).1 ∧ (L.getD k v0).b = (A.getD k (0, e0)).2 := by
  rw [← h, bodies_getD]; exact ⟨rfl, rfl⟩

set_option maxRecDepth 100000 in
set_option maxHeartbeats 4000000 in
theorem lawAccTwo (a : Option Addr) (n c : Nat) (a' : Option Addr) (n' c' : Nat) (w : World) (h : Bytes w w.heap.size a n) (hc : n ≤ c) (hm : c ≤ maxLen) (h' : Bytes w w.heap.size a' n') (hc' : n' ≤ c') (hm' : c' ≤ maxLen) :
    Calls Try.prog 7 #[.slice a n c, .slice a' n' c'] w fun e w' => e = .returned (.bool true) ∧ Below w.heap.size w w' := by
  have HB : Hid (Bytes w w.heap.size a n) := h
  have HM : Hid (c ≤ maxLen) := hm
  have HB2 : Hid (Bytes w w.heap.size a' n') := h'
  have HM2 : Hid (c' ≤ maxLen) := hm'
  clear h h'
  unfold maxLen at hm hm'
  by_cases hn : n ≤ 1048576
  · have hd : decide ((1048576 : Int) < (n : Int)) = false := by simp; omega
    by_cases hn2 : n' ≤ 1048576
    · have hd2 : decide ((1048576 : Int) < (n' : Int)) = false := by simp; omega
      go_enter Try.func7, Try.ntmps7
      go_wp2_with fail
      refine (drawAccBest a n c w HB.out hc HM.out).mono ?_
      rintro e w1 ⟨la, lc, us, lb0, ld0, us0, rfl, o1, _, b1⟩
      have U1 : Hid (LV w1 w.heap.size w1.heap.size (.slice la us.length lc) us) := o1
      have B1 : Hid (Below w.heap.size w w1) := b1
      clear o1 b1
      go_wp2_with fail
      refine (drawAccBest a' n' c' w1 (HB2.out.belowA B1.out) hc' HM2.out).mono ?_
      rintro e w2 ⟨lb, ld, vs, lb1, ld1, us1, rfl, o2, _, b2⟩
      obtain ⟨V, hV⟩ : ∃ V, V = w2.alloc (.cells #[.bool true, .int .i64 0, .int .i64 0, .slice none 0 0, .slice none 0 0, .int .i64 0, .int .i64 0] 33) := ⟨_, rfl⟩
      have EV : Hid (V = w2.alloc (.cells #[.bool true, .int .i64 0, .int .i64 0, .slice none 0 0, .slice none 0 0, .int .i64 0, .int .i64 0] 33)) := hV
      have KV : Hid (Below w2.heap.size w2 V) := by show Below _ _ _; rw [hV]; exact (Below.refl _ _).alloc (Nat.le_refl _) _
      have U2 : Hid (LV V w.heap.size w1.heap.size (.slice la us.length lc) us) := (U1.out.keep b2).keep KV.out
      have V2 : Hid (LV V w1.heap.size w2.heap.size (.slice lb vs.length ld) vs) := o2.keep KV.out
      have EB : Hid (Blk V w2.heap.size #[.bool true, .int .i64 0, .int .i64 0, .slice none 0 0, .slice none 0 0, .int .i64 0, .int .i64 0] 33) := by show Blk _ _ _ _; rw [hV]; exact Blk.new _ _ _
      have B2 : Hid (Below w.heap.size w V) := B1.out.trans ((b2.trans (KV.out.mono b2.size)).mono B1.out.size)
      have SZ : Hid (w.heap.size ≤ w1.heap.size ∧ w1.heap.size ≤ w2.heap.size ∧ w2.heap.size < V.heap.size) := ⟨B1.out.size, b2.size, EB.out.lt⟩
      have LU : us.length ≤ 40 := U2.out.len
      have LVs : vs.length ≤ 40 := V2.out.len
      clear o2 b2 hV U1 KV
      go_upto_region 6 with fail
      rw [← EV.out]
      clear EV
      go_wp2_with fail
      go_loopw [10, 11] (fun t i wr => ∃ k : Nat, k ≤ us.length ∧ i = .int .i64 k ∧ t = .int .i64 (topB 0 ((bodies us).take k)) ∧ V = wr) (fun _ i _ => us.length - (intOf i).toNat)
      case atStart => exact ⟨0, Nat.zero_le _, rfl, rfl, rfl⟩
      case round =>
        obtain ⟨k, hk, rfl, rfl, rfl⟩ := hrel
        by_cases hlt : k < us.length
        · have hki : (k : Int) < (us.length : Int) := by omega
          have TS : Hid (topB 0 ((bodies us).take (k + 1)) = if topB 0 ((bodies us).take k) < (us.getD k v0).bal then (us.getD k v0).bal else topB 0 ((bodies us).take k)) := by
            show _ = _
            rw [topB_succ 0 (by rw [bodies_len]; exact hlt), bodies_getD]; rfl
          obtain ⟨g, rfl, ⟨c0, _⟩, _⟩ := U2.out.vc rfl hlt
          generalize topB 0 ((bodies us).take k) = t at TS
          generalize (us.getD k v0).bal = x at c0 TS
          by_cases hx : t < x
          · have N : Hid (topB 0 ((bodies us).take (k + 1)) = x) := by show _ = _; rw [TS.out, if_pos hx]
            go_wp2_with fail
            go_roundw
            case rel => exact ⟨k + 1, by omega, by go_num, by rw [N.out], trivial⟩
            case measure => simp [intOf]; omega
          · have N : Hid (topB 0 ((bodies us).take (k + 1)) = t) := by show _ = _; rw [TS.out, if_neg hx]
            go_wp2_with fail
            go_roundw
            case rel => exact ⟨k + 1, by omega, by go_num, by rw [N.out], trivial⟩
            case measure => simp [intOf]; omega
        · have hki : ¬ (k : Int) < (us.length : Int) := by omega
          have ET : Hid (topB 0 ((bodies us).take k) = topB 0 (bodies us)) := by
            show _ = _
            rw [List.take_of_length_le (by rw [bodies_len]; omega)]
          rw [ET.out]
          clear ET
          obtain ⟨t0, ht0⟩ : ∃ t0, t0 = topB 0 (bodies us) := ⟨_, rfl⟩
          have HT0 : Hid (t0 = topB 0 (bodies us)) := ht0
          rw [← ht0]
          clear ht0
          go_wp2_with fail
          go_loopw [10, 12] (fun t i wr => ∃ k : Nat, k ≤ vs.length ∧ i = .int .i64 k ∧ t = .int .i64 (topB t0 ((bodies vs).take k)) ∧ V = wr) (fun _ i _ => vs.length - (intOf i).toNat)
          case atStart => exact ⟨0, Nat.zero_le _, rfl, rfl, rfl⟩
          case round =>
            obtain ⟨k2, hk2, rfl, rfl, rfl⟩ := hrel
            by_cases hlt2 : k2 < vs.length
            · have hki2 : (k2 : Int) < (vs.length : Int) := by omega
              have TS : Hid (topB t0 ((bodies vs).take (k2 + 1)) = if topB t0 ((bodies vs).take k2) < (vs.getD k2 v0).bal then (vs.getD k2 v0).bal else topB t0 ((bodies vs).take k2)) := by
                show _ = _
                rw [topB_succ t0 (by rw [bodies_len]; exact hlt2), bodies_getD]; rfl
              obtain ⟨g, rfl, ⟨c0, _⟩, _⟩ := V2.out.vc rfl hlt2
              generalize topB t0 ((bodies vs).take k2) = t at TS
              generalize (vs.getD k2 v0).bal = x at c0 TS
              by_cases hx : t < x
              · have N : Hid (topB t0 ((bodies vs).take (k2 + 1)) = x) := by show _ = _; rw [TS.out, if_pos hx]
                go_wp2_with fail
                go_roundw
                case rel => exact ⟨k2 + 1, by omega, by go_num, by rw [N.out], trivial⟩
                case measure => simp [intOf]; omega
              · have N : Hid (topB t0 ((bodies vs).take (k2 + 1)) = t) := by show _ = _; rw [TS.out, if_neg hx]
                go_wp2_with fail
                go_roundw
                case rel => exact ⟨k2 + 1, by omega, by go_num, by rw [N.out], trivial⟩
                case measure => simp [intOf]; omega
            · have hki2 : ¬ (k2 : Int) < (vs.length : Int) := by omega
              have ET : Hid (topB t0 ((bodies vs).take k2) = topB t0 (bodies vs)) := by
                show _ = _
                rw [List.take_of_length_le (by rw [bodies_len]; omega)]
              rw [ET.out]
              clear ET hk2 hlt2 hki hk hlt
              obtain ⟨t, ht⟩ : ∃ t, t = topB t0 (bodies vs) := ⟨_, rfl⟩
              have HT : Hid (0 ≤ t ∧ (∀ i, ((bodies us).getD i (0, e0)).1 ≤ t) ∧ ∀ i, ((bodies vs).getD i (0, e0)).1 ≤ t) := by
                have h1 := topB_ge (bodies us) 0
                have h2 := topB_ge (bodies vs) t0
                rw [← ht] at h2
                rw [← HT0.out] at h1
                refine ⟨by omega, getD_le (by omega) fun x hx => by have := h1.2 x hx; omega, getD_le (by omega) fun x hx => h2.2 x hx⟩
              have HU : Hid (0 < (bestOf (bodies us) (bodies vs)).length → t ≤ 3000) := fun h => by
                obtain ⟨oA, oB⟩ := bestOf_ok h
                rw [ht, HT0.out]
                refine topB_le _ _ (topB_le _ _ (by omega) fun x hx => ?_) fun x hx => ?_
                · obtain ⟨i, hi, rfl⟩ := List.mem_iff_getElem.1 hx
                  have := voteOk_bal (votesOk_at oA i)
                  simp [List.getD, hi] at this; omega
                · obtain ⟨i, hi, rfl⟩ := List.mem_iff_getElem.1 hx
                  have := voteOk_bal (votesOk_at oB i)
                  simp [List.getD, hi] at this; omega
              rw [← ht]
              clear ht HT0
              obtain ⟨K, hK⟩ : ∃ K, (bestOf (bodies us) (bodies vs)).length = K := ⟨_, rfl⟩
              have HK : Hid ((bestOf (bodies us) (bodies vs)).length = K) := hK
              rw [hK] at HU
              have KL : K ≤ 40 := by rw [← hK]; exact bestOf_len _ _
              have CI : Hid (∀ W, Below V.heap.size V W → Calls Try.prog 24 #[.slice la us.length lc, .slice lb vs.length ld] W fun e w' => ∃ a c, e = .returned (.slice a K c) ∧ Hid (Below V.heap.size V w')) := fun W hb =>
                (bestV (U2.out.keep hb) (V2.out.keep hb) K HK.out).mono fun e w' ⟨a, c, N, h1, _, _, _, h5⟩ => ⟨a, c, h1, hb.trans (h5.mono hb.size)⟩
              have CS : Hid (∀ W, Below V.heap.size V W → Calls Try.prog 25 #[.slice la us.length lc, .slice lb vs.length ld] W fun e w' => ∃ a c, e = .returned (.slice a K c) ∧ Hid (Below V.heap.size V w')) := fun W hb =>
                (bestVS (U2.out.keep hb) (V2.out.keep hb) K HK.out).mono fun e w' ⟨a, c, N, h1, _, _, _, h5⟩ => ⟨a, c, h1, hb.trans (h5.mono hb.size)⟩
              have FIN : Hid (∀ W, Below V.heap.size V W → Below w.heap.size w W) := fun W hb => B2.out.trans (hb.mono B2.out.size)
              clear hK
              by_cases hK0 : K = 0
              · subst hK0
                go_wp2_with fail
                refine Calls.mono (CI.out V (Below.refl _ _)) ?_
                rintro e w3 ⟨a3, c3, rfl, H3⟩
                go_wp2_with fail
                refine Calls.mono (CS.out w3 H3.out) ?_
                rintro e w4 ⟨a4, c4, rfl, H4⟩
                go_wp2_with fail
                refine Calls.mono (CS.out w4 H4.out) ?_
                rintro e w5 ⟨a5, c5, rfl, H5⟩
                go_wp2_with fail
                refine Calls.mono (CI.out w5 H5.out) ?_
                rintro e w6 ⟨a6, c6, rfl, H6⟩
                go_wp2_with fail
                refine Calls.mono (CS.out w6 H6.out) ?_
                rintro e w7 ⟨a7, c7, rfl, H7⟩
                go_wp2_with fail
                go_ret
                exact ⟨rfl, FIN.out _ H7.out⟩
              · have hKe : ((K : Int) == 0) = false := by simpa using hK0
                have hKn : ((K : Int) != (K : Int)) = false := by simp
                have ht3 := HU.out (by omega)
                have ht0 := HT.out.1
                by_cases hge : 3000 < t + 1
                · have hg : decide ((3000 : Int) < t + 1) = true := by simpa using hge
                  go_wp2_with fail
                  refine Calls.mono (CI.out V (Below.refl _ _)) ?_
                  rintro e w3 ⟨a3, c3, rfl, H3⟩
                  go_wp2_with fail
                  refine Calls.mono (CS.out w3 H3.out) ?_
                  rintro e w4 ⟨a4, c4, rfl, H4⟩
                  go_wp2_with fail
                  refine Calls.mono (CS.out w4 H4.out) ?_
                  rintro e w5 ⟨a5, c5, rfl, H5⟩
                  go_wp2_with fail
                  refine Calls.mono (CI.out w5 H5.out) ?_
                  rintro e w6 ⟨a6, c6, rfl, H6⟩
                  go_wp2_with fail
                  refine Calls.mono (CS.out w6 H6.out) ?_
                  rintro e w7 ⟨a7, c7, rfl, H7⟩
                  go_wp2_with fail
                  go_ret
                  exact ⟨rfl, FIN.out _ H7.out⟩
                · have hg : decide ((3000 : Int) < t + 1) = false := by simpa using hge
                  go_wp2_with fail
                  refine Calls.mono (CI.out V (Below.refl _ _)) ?_
                  rintro e w3 ⟨a3, c3, rfl, H3⟩
                  go_wp2_with fail
                  refine Calls.mono (CS.out w3 H3.out) ?_
                  rintro e w4 ⟨a4, c4, rfl, H4⟩
                  go_wp2_with fail
                  refine Calls.mono (CS.out w4 H4.out) ?_
                  rintro e w5 ⟨a5, c5, rfl, H5⟩
                  go_wp2_with fail
                  refine Calls.mono (CI.out w5 H5.out) ?_
                  rintro e w6 ⟨a6, c6, rfl, H6⟩
                  go_upto_region 20 with fail
                  have K0 : 0 < K := by omega
                  have EM : ((n' : Int) % (K : Int)) = ((n' % K : Nat) : Int) := by simp
                  rw [EM]
                  have LQ : n' % K < K := Nat.mod_lt _ K0
                  clear EM
                  obtain ⟨q, hq⟩ : ∃ q, q = n' % K := ⟨_, rfl⟩
                  rw [← hq] at LQ ⊢
                  clear hq
                  have H6' := H6.out
                  have SZ6 : Hid (V.heap.size ≤ w6.heap.size) := H6'.size
                  obtain ⟨m1, m2, m3, m4, m5⟩ := two_math (A := bodies us) (B := bodies vs) (k := q) (t := t) (by rw [HK.out]; exact K0) (by rw [HK.out]; exact LQ) ht0 (by omega) HT.out.2.1 HT.out.2.2
                  obtain ⟨X, hX⟩ : ∃ X, X = bestOf (bodies us) (List.replicate (q + 1) (0, e0)) := ⟨_, rfl⟩
                  have HX : Hid (X = bestOf (bodies us) (List.replicate (q + 1) (0, e0))) := hX
                  rw [← hX] at m1 m2 m3 m4 m5
                  obtain ⟨KX, hKX⟩ : ∃ KX, KX = X.length := ⟨_, rfl⟩
                  have HKX : Hid (X.length = KX) := hKX.symm
                  obtain ⟨KP, hKP⟩ : ∃ KP, KP = (bestOf (X.set q (t + 1, eN)) (bodies vs)).length := ⟨_, rfl⟩
                  have HKP : Hid ((bestOf (X.set q (t + 1, eN)) (bodies vs)).length = KP) := hKP.symm
                  rw [← hKP] at m2 m5
                  rw [← hKX] at m1
                  have M3 : Hid ((bestOf (X.set q (t + 1, eN)) (bodies vs)).getD q (0, e0) = (t + 1, eN)) := m3
                  have M4 : Hid ((bestOf (bodies vs) (X.set q (t + 1, eN))).getD q (0, e0) = (t + 1, eN)) := m4
                  have M5 : Hid ((bestOf (bodies vs) (X.set q (t + 1, eN))).length = KP) := m5
                  clear m3 m4 m5 hX hKX hKP H6'
                  have lq : q ≤ 40 := by omega
                  have hmk : (Instr.makeSlice 23 (.int .i64 ((q : Int) + 1)) (.int .i64 ((q : Int) + 1))).run Try.prog w6 = .ok (.slice (some ⟨w6.heap.size, 0, none⟩) (q + 1) (q + 1)) (w6.alloc (.cells (madeCells #[.int .i64 0, .bool false, .int .i64 0, .int .i64 0, .slice none 0 0, .slice none 0 0, .int .i64 0, .int .i64 0] ((q + 1) * 8)) 42)) := by
                    have := make_row (P := Try.prog) Try.underlying23 infoVote (q + 1) (by omega) (by omega) w6
                    rw [show ((q + 1 : Nat) : Int) = (q : Int) + 1 by omega] at this
                    exact this
                  obtain ⟨W7, hW7⟩ : ∃ W, W = w6.alloc (.cells (madeCells #[.int .i64 0, .bool false, .int .i64 0, .int .i64 0, .slice none 0 0, .slice none 0 0, .int .i64 0, .int .i64 0] ((q + 1) * 8)) 42) := ⟨_, rfl⟩
                  have Z7 : Hid (LV W7 w6.heap.size (w6.heap.size + 1) (.slice (some ⟨w6.heap.size, 0, none⟩) (q + 1) (q + 1)) (List.replicate (q + 1) v0)) := by show LV _ _ _ _ _; rw [hW7]; exact zerosLV w6 (q + 1) (by omega)
                  have H7 : Hid (Below V.heap.size V W7) := by show Below _ _ _; rw [hW7]; exact H6.out.alloc SZ6.out _
                  rw [← hW7] at hmk
                  have S7 : Hid (V.heap.size ≤ W7.heap.size) := H7.out.size
                  clear hW7
                  go_wp2_with fail
                  refine Calls.mono (bestV (U2.out.keep H7.out) Z7.out KX (by rw [bodies_zeros, ← HX.out]; exact HKX.out)) ?_
                  rintro e w8 ⟨ax, cx, N, rfl, hN, bN, oN, b8⟩
                  have HN : Hid (N.length = KX) := hN
                  have BN : Hid (bodies N = X) := by show _ = _; rw [bN, bodies_zeros, ← HX.out]
                  have H8 : Hid (Below V.heap.size V w8) := H7.out.trans (b8.mono H7.out.size)
                  have O8 : Hid (LV w8 W7.heap.size w8.heap.size (.slice ax KX cx) N) := oN
                  obtain ⟨g, rfl, ⟨c0, c1, c2, c3, c4, c5, c6, c7⟩, fr, hgT, hgB⟩ := oN.vc hN m1
                  have G8 : Hid (V.heap.size ≤ g) := by show _ ≤ _; have := S7.out; omega
                  have E8 : Hid (Blk w8 w2.heap.size #[.bool true, .int .i64 0, .int .i64 0, .slice none 0 0, .slice none 0 0, .int .i64 0, .int .i64 0] 33) := EB.out.keep H8.out
                  obtain ⟨d0, d1, d2, d3, d4, d5, d6⟩ := Blk.cells7 E8.out
                  have B8 : Hid (W7.heap.size ≤ w8.heap.size) := b8.size
                  clear hN bN oN b8 hgT hgB hmk
                  go_upto_region 22 with fail
                  have SETS : Hid (set8 w8 g (q * 8) (vN (t + 1)) = (((((((w8.setCell ⟨g, q * 8, none⟩ (.int .i64 (t + 1))).setCell ⟨g, q * 8 + 1, none⟩ (.bool true)).setCell ⟨g, q * 8 + 2, none⟩ (.int .i64 0)).setCell ⟨g, q * 8 + 3, none⟩ (.int .i64 0)).setCell ⟨g, q * 8 + 4, none⟩ (.slice none 0 0)).setCell ⟨g, q * 8 + 5, none⟩ (.slice none 0 0)).setCell ⟨g, q * 8 + 6, none⟩ (.int .i64 0)).setCell ⟨g, q * 8 + 7, none⟩ (.int .i64 0)) := rfl
                  rw [← SETS.out]
                  clear SETS c0 c1 c2 c3 c4 c5 c6 c7 d0 d1 d2 d3 d4 d5 d6 fr
                  obtain ⟨W9, hW9⟩ : ∃ W, W = set8 w8 g (q * 8) (vN (t + 1)) := ⟨_, rfl⟩
                  have X9 : Hid (LV W9 W7.heap.size w8.heap.size (.slice (some ⟨g, 0, none⟩) KX cx) (N.set q (vN (t + 1)))) := by show LV _ _ _ _ _; rw [hW9]; exact O8.out.put HN.out m1 B8.out (t + 1)
                  have V9 : Hid (LV W9 w1.heap.size w2.heap.size (.slice lb vs.length ld) vs) := by show LV _ _ _ _ _; rw [hW9]; exact (V2.out.keep H8.out).putOther (by have := SZ.out; have := G8.out; omega) _
                  have H9 : Hid (Below V.heap.size V W9) := by show Below _ _ _; rw [hW9]; exact set8_below H8.out G8.out _ _
                  have Y9 : Hid (bodies (N.set q (vN (t + 1))) = X.set q (t + 1, eN)) := by show _ = _; rw [bodies_set, BN.out]; rfl
                  rw [← hW9]
                  clear hW9 O8 E8
                  go_wp2_with fail
                  refine Calls.mono (bestV X9.out V9.out KP (by rw [Y9.out]; exact HKP.out)) ?_
                  rintro e wA ⟨ap, cp, P, rfl, hP, bP, oP, bA⟩
                  have HP : Hid (P.length = KP) := hP
                  have BP : Hid ((P.getD q v0).bal = t + 1 ∧ (P.getD q v0).b.n = true) := by
                    rw [Y9.out] at bP
                    have := bal_at bP q
                    rw [M3.out] at this
                    exact ⟨this.1, by rw [this.2]; rfl⟩
                  have OP : Hid (LV wA W9.heap.size wA.heap.size (.slice ap KP cp) P) := oP
                  have XA : Hid (LV wA W7.heap.size w8.heap.size (.slice (some ⟨g, 0, none⟩) KX cx) (N.set q (vN (t + 1)))) := X9.out.keep bA
                  have VA : Hid (LV wA w1.heap.size w2.heap.size (.slice lb vs.length ld) vs) := V9.out.keep bA
                  have HA : Hid (Below V.heap.size V wA) := H9.out.trans (bA.mono H9.out.size)
                  clear hP bP oP bA
                  go_wp2_with fail
                  refine Calls.mono (bestV VA.out XA.out KP (by rw [Y9.out]; exact M5.out)) ?_
                  rintro e wB ⟨aq, cq, Q, rfl, hQ, bQ, oQ, bB⟩
                  have HB9 : Hid (Below V.heap.size V wB) := HA.out.trans (bB.mono HA.out.size)
                  obtain ⟨gp, rfl, ⟨c0, c1, _⟩, _⟩ := (OP.out.keep bB).vc HP.out m2
                  obtain ⟨gq, rfl, ⟨d0, d1, _⟩, _⟩ := oQ.vc hQ m2
                  rw [BP.out.1] at c0
                  rw [BP.out.2] at c1
                  have BQ : (Q.getD q v0).bal = t + 1 ∧ (Q.getD q v0).b.n = true := by
                    rw [Y9.out] at bQ
                    have := bal_at bQ q
                    rw [M4.out] at this
                    exact ⟨this.1, by rw [this.2]; rfl⟩
                  rw [BQ.1] at d0
                  rw [BQ.2] at d1
                  clear BQ hQ bQ oQ bB hd hd2
                  go_wp2_with fail
                  go_ret
                  exact ⟨rfl, FIN.out _ HB9.out⟩
    · have hd2 : decide ((1048576 : Int) < (n' : Int)) = true := by simp; omega
      go_enter Try.func7, Try.ntmps7
      go_wp2_with fail
      go_ret
      exact ⟨rfl, Below.refl _ _⟩
  · have hd : decide ((1048576 : Int) < (n : Int)) = true := by simp; omega
    go_enter Try.func7, Try.ntmps7
    go_wp2_with fail
    go_ret
    exact ⟨rfl, Below.refl _ _⟩
end Go.Proofs.Ytfifiobcmdmefaa.Own
