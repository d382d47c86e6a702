/-
  Own texts, bundled: LedEnter.
-/
import Derived.Test.YtbecdihfopjlhaaGreatDoorPk21
namespace Go.Proofs.YtbecdihfopjlhaaGreatDoor.Own
open Go.RowKit
set_option linter.unusedVariables false
set_option linter.unusedSimpArgs false

/-- The verdict of a request by what its node asked last, if that bars it. -/
def seenC (m : Nat → Option T3) (j : Nat) (q : Int) : Nat := match m j with
  | some t => if t.1 = q then 3 else if q < t.1 then 4 else 0
  | none => 0
theorem verdict_seen (bs : List P2) (m : Nat → Option T3) (j : Nat) (q : Int) (xs ys : List P2) (v k : Int) : verdict bs m false (j : Int) q xs ys v k = if seenC m j q = 0 then judgeR bs xs ys v k else (seenC m j q : Int) := by
  unfold verdict seenC
  simp only [Bool.false_eq_true, if_false, Int.toNat_natCast]
  cases m j with
  | none => rfl
  | some t =>
    simp only
    by_cases e : t.1 = q
    · rw [if_pos e, if_pos e]; rfl
    · rw [if_neg e, if_neg e]
      by_cases e2 : q < t.1
      · rw [if_pos e2, if_pos e2]; rfl
      · rw [if_neg e2, if_neg e2]; rfl
theorem seenV_eq (m : Nat → Option T3) (j : Nat) (q : Int) (E : Nat → Addr) : seenV m j q (.iface 219 (.pointer (some (E 3)))) (.iface 219 (.pointer (some (E 4)))) = verV E (seenC m j q) := by
  unfold seenV seenC
  cases m j with
  | none => rfl
  | some t =>
    simp only
    by_cases e : t.1 = q
    · rw [if_pos e, if_pos e]; rfl
    · rw [if_neg e, if_neg e]
      by_cases e2 : q < t.1
      · rw [if_pos e2, if_pos e2]; rfl
      · rw [if_neg e2, if_neg e2]; rfl
theorem seenC_cases (m : Nat → Option T3) (j : Nat) (q : Int) : seenC m j q = 0 ∨ seenC m j q = 3 ∨ seenC m j q = 4 := by
  unfold seenC
  cases m j with
  | none => exact .inl rfl
  | some t =>
    simp only
    by_cases e : t.1 = q
    · rw [if_pos e]; exact .inr (.inl rfl)
    · rw [if_neg e]
      by_cases e2 : q < t.1
      · rw [if_pos e2]; exact .inr (.inr rfl)
      · rw [if_neg e2]; exact .inl rfl

/-- What an entry leaves in the ledger. -/
def EnterPost (b bm M : Nat) (z : Int) (bs : List P2) (m : Nat → Option T3) (c : Int) (p q : Int) (ys : List P2) (v : Int) (E : Nat → Addr) (w : World) (e : Ending) (w' : World) : Prop :=
  e = .returned (verV E c.toNat) ∧ Led w' b bm (M + 1) z (boxesBy c bs ys) (keptBy c m p q v) ∧ Turned [b, bm] w w'

theorem Led.mono {w : World} {b bm N N' : Nat} {z : Int} {bs : List P2} {m : Nat → Option T3} (h : Led w b bm N z bs m) (hn : N ≤ N') : Led w b bm N' z bs m := ⟨h.blk, h.lasts.mono hn, h.ne, h.bok, h.ok⟩

/-- The boxes of the ledger are laid anew, cell by cell. -/
def setBoxes (w : World) (b : Nat) (bn : List P2) : World := (((((((w.setCell ⟨b, 1, none⟩ (.int .i64 (bn.getD 0 (0, 0)).1)).setCell ⟨b, 2, none⟩ (.int .i64 (bn.getD 0 (0, 0)).2)).setCell ⟨b, 3, none⟩ (.int .i64 (bn.getD 1 (0, 0)).1)).setCell ⟨b, 4, none⟩ (.int .i64 (bn.getD 1 (0, 0)).2)).setCell ⟨b, 5, none⟩ (.int .i64 (bn.getD 2 (0, 0)).1)).setCell ⟨b, 6, none⟩ (.int .i64 (bn.getD 2 (0, 0)).2)).setCell ⟨b, 7, none⟩ (.int .i64 (bn.getD 3 (0, 0)).1)).setCell ⟨b, 8, none⟩ (.int .i64 (bn.getD 3 (0, 0)).2)
theorem led_set {w : World} {b bm : Nat} {z : Int} {bs : List P2} (bn : List P2) (h : Blk w b (ledC z bs bm) 136) : Blk (setBoxes w b bn) b (ledC z bn bm) 136 ∧ Only b w (setBoxes w b bn) := by
  unfold setBoxes
  refine ⟨((((((((h.set 1 _).set 2 _).set 3 _).set 4 _).set 5 _).set 6 _).set 7 _).set 8 _).eq ?_, ((((((((Only.refl b w).setCell _).setCell _).setCell _).setCell _).setCell _).setCell _).setCell _).setCell _⟩
  simp [ledC]

theorem led_cells {w : World} {b bm : Nat} {z : Int} {bs : List P2} {t : TypeId} (h : Blk w b (ledC z bs bm) t) : w.cell? ⟨b, 1, none⟩ = some (.int .i64 (bs.getD 0 (0, 0)).1) ∧ w.cell? ⟨b, 2, none⟩ = some (.int .i64 (bs.getD 0 (0, 0)).2) ∧ w.cell? ⟨b, 3, none⟩ = some (.int .i64 (bs.getD 1 (0, 0)).1) ∧ w.cell? ⟨b, 4, none⟩ = some (.int .i64 (bs.getD 1 (0, 0)).2) ∧ w.cell? ⟨b, 5, none⟩ = some (.int .i64 (bs.getD 2 (0, 0)).1) ∧ w.cell? ⟨b, 6, none⟩ = some (.int .i64 (bs.getD 2 (0, 0)).2) ∧ w.cell? ⟨b, 7, none⟩ = some (.int .i64 (bs.getD 3 (0, 0)).1) ∧ w.cell? ⟨b, 8, none⟩ = some (.int .i64 (bs.getD 3 (0, 0)).2) :=
  ⟨by rw [h.cell]; rfl, by rw [h.cell]; rfl, by rw [h.cell]; rfl, by rw [h.cell]; rfl, by rw [h.cell]; rfl, by rw [h.cell]; rfl, by rw [h.cell]; rfl, by rw [h.cell]; rfl⟩

set_option maxRecDepth 100000 in
set_option maxHeartbeats 4000000 in
theorem ledEnter (b bm M N : Nat) (z : Int) (bs : List P2) (m : Nat → Option T3) (E : Nat → Addr) (n : Bool) (j : Nat) (q : Int) (a1 a2 : Option Addr) (c1 c2 : Nat) (xs ys : List P2) (v k : Int) (w : World)
    (hl : Led w b bm M z bs m) (hM : M ≤ 900) (hE : Errs N w E) (hj : j < 3) (hq1 : 1 ≤ q) (hq2 : q ≤ 1000) (hx : execOk xs ys v k = true) (h1 : Sl w a1 xs) (h2 : Sl w a2 ys) (hn1 : xs.length ≤ 2 ^ 40) (hn2 : ys.length ≤ 2 ^ 40) :
    Calls Tryz.prog 179 #[.agg #[.bool n, .int .i64 (j : Int), .int .i64 q, .slice a1 xs.length c1, .slice a2 ys.length c2, .int .i64 v, .int .i64 k], .pointer (some ⟨b, 0, none⟩)] w fun e w' => EnterPost b bm M z bs m (verdict bs m false (j : Int) q xs ys v k) (j : Int) q ys v E w e w' := by
  have hqw : (Lit.int .i64 q).wf = true := WalkArith.wf_i64 (by omega)
  obtain ⟨W, hW⟩ : ∃ W, W = w.alloc (.cells #[.bool n, .int .i64 (j : Int), .int .i64 q, .slice a1 xs.length c1, .slice a2 ys.length c2, .int .i64 v, .int .i64 k] 192) := ⟨_, rfl⟩
  have bW : Below w.heap.size w W := by rw [hW]; exact (Below.refl _ _).alloc (Nat.le_refl _) _
  have BW : Hid (Below w.heap.size w W) := bW
  have QW : Hid (Blk W w.heap.size #[.bool n, .int .i64 (j : Int), .int .i64 q, .slice a1 xs.length c1, .slice a2 ys.length c2, .int .i64 v, .int .i64 k] 192) := by show Blk _ _ _ _; rw [hW]; exact Blk.new _ _ _
  have L0 : Hid (Led w b bm M z bs m) := hl
  have LW : Hid (Led W b bm M z bs m) := hl.keep bW
  have EW : Hid (Errs N W E) := hE.keep bW
  have S1 : Hid (Sl W a1 xs) := h1.below bW
  have S2 : Hid (Sl W a2 ys) := h2.below bW
  have HX : Hid (execOk xs ys v k = true) := hx
  have HQ : Hid (1 ≤ q ∧ q ≤ 1000) := ⟨hq1, hq2⟩
  have HW : Hid (W = _) := hW
  have SEEN : Hid (Calls Tryz.prog 181 #[.pointer (some ⟨b, 0, none⟩), .agg #[.int .i64 (j : Int), .int .i64 q]] W fun e w' => e = .returned (verV E (seenC m j q)) ∧ Below W.heap.size W w') := by
    have := ledSeen b bm M m j q 219 219 (.pointer (some (E 3))) (.pointer (some (E 4))) W hl.ok hj hqw LW.out.map LW.out.blk.lt LW.out.lasts EW.out.g3 EW.out.g4 (Nat.le_trans EW.out.low EW.out.size)
    rw [seenV_eq] at this
    exact this
  have V0 : Hid (verdict bs m false (j : Int) q xs ys v k = if seenC m j q = 0 then judgeR bs xs ys v k else (seenC m j q : Int)) := verdict_seen bs m j q xs ys v k
  have JR := judgeR_range bs xs ys v k
  have JUDGE : Hid (∀ V, Below W.heap.size W V → Calls Tryz.prog 182 #[.pointer (some ⟨b, 0, none⟩), .agg #[.slice a1 xs.length c1, .slice a2 ys.length c2, .int .i64 v, .int .i64 k]] V fun e w' => e = .returned (verV E (judgeR bs xs ys v k).toNat) ∧ Below V.heap.size V w') := fun V hV =>
    ledJudge b bm M N z bs m E a1 a2 c1 c2 xs ys v k V (LW.out.keep hV) (EW.out.keep hV) (S1.out.below hV) (S2.out.below hV) hn1 hn2
  have JF : Hid (judgeR bs xs ys v k = 0 → k = 0) := fun h => by
    unfold judgeR at h
    split at h
    · split at h
      · assumption
      · omega
    · omega
  generalize judgeR bs xs ys v k = R at *
  generalize hvd : verdict bs m false (j : Int) q xs ys v k = vd at V0 ⊢
  obtain ⟨q0, q1, q2, q3, q4, q5, q6⟩ := QW.out.cells7
  have hsc := seenC_cases m j q
  generalize seenC m j q = sc at *
  have CODE : Hid (∀ V, Below W.heap.size W V → ∀ i, i < 6 → Calls Tryz.prog 51 #[verV E i] V fun e w' => e = .returned (.int .i64 (i : Int)) ∧ w' = V) := fun V hV i hi => certCode N E V (EW.out.keep hV) i hi
  clear hl hE h1 h2 hx hq1 hq2 hW bW hvd
  by_cases hs0 : sc = 0
  · subst hs0
    have VD : Hid (vd = R) := by show _ = _; rw [V0.out, if_pos rfl]
    clear V0 hsc
    rw [VD.out]
    clear VD
    go_enter Tryz.func179, Tryz.ntmps179
    go_wp2_with fail
    rw [← HW.out]
    refine Calls.mono SEEN.out ?_
    rintro e w1 ⟨rfl, hb⟩
    rw [verV_zero]
    have B1 : Hid (Below W.heap.size W w1) := hb
    clear hb q0 q1 q2 q3 q4 q5 q6 SEEN
    obtain ⟨q0, q1, q2, q3, q4, q5, q6⟩ := (QW.out.keep B1.out).cells7
    go_wp2_with fail
    refine Calls.mono (JUDGE.out w1 B1.out) ?_
    rintro e w2 ⟨rfl, hb⟩
    have B2 : Hid (Below W.heap.size W w2) := B1.out.trans (hb.mono B1.out.size)
    clear hb q0 q1 q2 q3 q4 q5 q6 JUDGE
    obtain ⟨q0, q1, q2, q3, q4, q5, q6⟩ := (QW.out.keep B2.out).cells7
    rcases (by omega : R = 0 ∨ R = 1 ∨ R = 2) with rfl | rfl | rfl
    · have HK0 : Hid (k = 0) := JF.out rfl
      have CB : Hid (Calls Tryz.prog 51 #[.nilIface] w2 fun e w' => e = .returned (.int .i64 (0 : Int)) ∧ w' = w2) := CODE.out w2 B2.out 0 (by omega)
      obtain ⟨Y, hY⟩ : ∃ Y, Y = w2.alloc (.cells #[.int .i64 0, .int .i64 v] 139) := ⟨_, rfl⟩
      have bY : Below W.heap.size W Y := by rw [hY]; exact B2.out.alloc B2.out.size _
      have BY : Hid (Below W.heap.size W Y) := bY
      have EY : Hid (Blk Y w2.heap.size #[.int .i64 0, .int .i64 v] 139) := by show Blk _ _ _ _; rw [hY]; exact Blk.new _ _ _
      have QY : Hid (Blk Y w.heap.size _ _) := QW.out.keep bY
      have LY : Hid (Led Y b bm M z bs m) := LW.out.keep bY
      have HY : Hid (Y = _) := hY
      have hbo : execDo bs xs ys v k = doPuts bs ys := by unfold execDo; rw [LW.out.bok, HX.out]; rfl
      have hd4 : (doPuts bs ys).length = 4 := by rw [doPuts_length]; exact LW.out.four
      have hbn : boxOk (doPuts bs ys) = true := by
        have := doPuts_ok LW.out.bok (execOk_puts HX.out) ys.length (Nat.le_refl _)
        rwa [List.take_length] at this
      have HBN : Hid (boxOk (doPuts bs ys) = true) := hbn
      have DO : Hid (∀ V, Below Y.heap.size Y V → Calls Tryz.prog 52 #[.slice (some ⟨b, 1, none⟩) 4 4, .agg #[.slice a1 xs.length c1, .slice a2 ys.length c2, .int .i64 v, .int .i64 k]] V fun e w' => ∃ ad cap, e = .returned (.slice ad 4 cap) ∧ 4 ≤ cap ∧ Sl w' ad (doPuts bs ys) ∧ Below V.heap.size V w') := fun V hV => by
        have := implExecDo (some ⟨b, 1, none⟩) 4 bs a1 a2 c1 c2 xs ys v k V (.inr ⟨b, 1, rfl, LY.out.box.below hV⟩) (by rw [LY.out.four]; omega) ((S1.out.below BY.out).below hV) ((S2.out.below BY.out).below hV) hn1 hn2
        rw [hbo, LY.out.four, hd4] at this
        exact this.mono fun e w' ⟨ad, cap, he, hc, ho, hb⟩ => ⟨ad, cap, he, hc, ho.sl, hb⟩
      have FROM : Hid (∀ (V : World) (ad : Option Addr) (cap : Nat), Sl V ad (doPuts bs ys) → 4 ≤ cap → Calls Tryz.prog 45 #[.slice ad 4 cap, .int .i64 0] V fun e w' => e = .returned (.agg #[.int .i64 ((doPuts bs ys).getD 0 (0, 0)).1, .int .i64 ((doPuts bs ys).getD 0 (0, 0)).2, .int .i64 ((doPuts bs ys).getD 1 (0, 0)).1, .int .i64 ((doPuts bs ys).getD 1 (0, 0)).2, .int .i64 ((doPuts bs ys).getD 2 (0, 0)).1, .int .i64 ((doPuts bs ys).getD 2 (0, 0)).2, .int .i64 ((doPuts bs ys).getD 3 (0, 0)).1, .int .i64 ((doPuts bs ys).getD 3 (0, 0)).2]) ∧ Below V.heap.size V w') := fun V ad cap hs hc => by
        have := boxesFrom ad cap (doPuts bs ys) 0 V hs (by rw [hd4]; exact hc) (Nat.zero_le _)
        rw [hd4] at this
        exact this
      have HDN : Hid (boxesBy 0 bs ys = doPuts bs ys) := rfl
      generalize doPuts bs ys = bn at *
      have BD : Hid (Below Y.heap.size Y Y.drew) := (Below.refl _ _).drew
      have FRZ : Hid (∀ V, Below Y.heap.size Y V → ∀ o, V.frozen? ⟨b, o, none⟩ = false) := fun V hV o => (LY.out.blk.keep hV).frozen o
      clear hY bY hbo hd4 hbn CODE q0 q1 q2 q3 q4 q5 q6
      obtain ⟨q0, q1, q2, q3, q4, q5, q6⟩ := (QW.out.keep B2.out).cells7
      have qa5 : (w2.alloc (.cells #[.int .i64 0, .int .i64 0] 139)).cell? ⟨w.heap.size, 5, none⟩ = some (.int .i64 v) := by rw [((QW.out.keep B2.out).alloc _).cell]; rfl
      rw [show verV E (0 : Int).toNat = .nilIface from rfl]
      go_wp2_with fail
      refine Calls.mono CB.out ?_
      rintro e w3 ⟨rfl, rfl⟩
      go_upto_region 8 with fail
      rw [← HY.out]
      clear q0 q1 q2 q3 q4 q5 q6 qa5
      obtain ⟨q0, q1, q2, q3, q4, q5, q6⟩ := QY.out.cells7
      go_cut [] from 28 to 38 (fun wx => Blk wx b (ledC z bn bm) 136 ∧ Turned [b] Y wx)
      case first =>
        go_region_with (first | (go_at_call 52; refine Calls.mono (DO.out _ BD.out) ?_; rintro e w4 ⟨ad, cap, rfl, hcap, hsl, hb4⟩; have B4 : Hid (Below Y.heap.size Y w4) := BD.out.trans hb4; have SL4 : Hid (Sl w4 ad bn) := hsl; clear hb4 hsl) | (go_at_call 45; refine Calls.mono (FROM.out _ _ _ SL4.out hcap) ?_; rintro e w5 ⟨rfl, hb5⟩; have B5 : Hid (Below Y.heap.size Y w5) := B4.out.trans (hb5.mono B4.out.size); have fz := FRZ.out w5 B5.out; obtain ⟨k1, k2, k3, k4, k5, k6, k7, k8⟩ := led_cells (LY.out.blk.keep B5.out); clear hb5))
        all_goals
          go_wp2_with fail
          go_meet
          have ls := led_set bn (LY.out.blk.keep B5.out)
          exact ⟨ls.1, (Turned.ofBelow B5.out).trans (Turned.ofOnly ls.2 (by simp))⟩
      case rest =>
        obtain ⟨hbk, ht⟩ := hcut
        have ltb := LY.out.blk.lt
        have yb : ∀ {g C t}, Blk Y g C t → g ≠ b → Blk wc g C t := fun h hn => by
          show wc.heap[_]? = _
          rw [ht.block _ h.lt (by simp; exact hn)]; exact h
        have lb : b < w.heap.size := L0.out.blk.lt
        have n1 : w.heap.size ≠ b := by omega
        have n2 : w3.heap.size ≠ b := by have := B2.out.size; have := BW.out.size; omega
        have hm : MapM wc bm M m := LY.out.lasts.block (ht.block bm LY.out.lasts.lt (by simp; exact LY.out.ne))
        have hmap : wc.cell? ⟨b, 9, none⟩ = some (.map (some bm)) := by rw [hbk.cell]; rfl
        have T1 : Turned [b] w wc := (Turned.ofBelow (BW.out.trans (BY.out.mono BW.out.size))).trans ht
        have KEEP : Hid (Calls Tryz.prog 76 #[.pointer (some ⟨b, 0, none⟩), .agg #[.int .i64 (j : Int), .int .i64 q], .agg #[.int .i64 0, .int .i64 v]] wc fun e w' => e = .returned (.tuple #[]) ∧ MapM w' bm (M + 1) (setM m j (q, 0, v)) ∧ Turned [bm] wc w') :=
          ledKeep b bm M m j (q, 0, v) wc L0.out.ok hj hqw hM hmap hbk.lt LY.out.ne hm
        have FIN : Hid (∀ w', MapM w' bm (M + 1) (setM m j (q, 0, v)) ∧ Turned [bm] wc w' → EnterPost b bm M z bs m 0 (j : Int) q ys v E w (.returned .nilIface) w') := fun w' h => by
          have ln := LY.out.ne
          refine ⟨rfl, ⟨?_, h.1, ln, ?_, ?_⟩, (T1.mono (by simp)).trans (h.2.mono (by simp))⟩
          · show w'.heap[b]? = _
            rw [h.2.block _ hbk.lt (by simp; exact fun e => ln e.symm)]
            have e : boxesBy 0 bs ys = bn := HDN.out
            rw [e]; exact hbk
          · have e : boxesBy 0 bs ys = bn := HDN.out
            rw [e]; exact HBN.out
          · refine L0.out.ok.set ?_
            have hv := HX.out
            unfold execOk at hv
            rw [HK0.out, endOk_0] at hv
            simp only [Bool.and_eq_true] at hv
            simp [okT, codeOk, HQ.out.1, HQ.out.2, hv.1.1]
        obtain ⟨q0, q1, q2, q3, q4, q5, q6⟩ := (yb QY.out n1).cells7
        obtain ⟨e0, e1⟩ := (yb EY.out n2).cells2
        clear hbk ht ltb yb lb n1 n2 hm hmap T1
        go_wp2_with fail
        refine Calls.mono KEEP.out ?_
        rintro e w4 ⟨rfl, hk⟩
        have F := FIN.out w4 hk
        clear hk
        have FF : Hid _ := F
        clear F
        go_wp2_with fail
        go_ret
        exact FF.out
    · have hv : verV E (1 : Int).toNat = .iface 219 (.pointer (some (E 1))) := verV_pos E (by decide)
      have CB : Hid (Calls Tryz.prog 51 #[.iface 219 (.pointer (some (E 1)))] w2 fun e w' => e = .returned (.int .i64 (1 : Int)) ∧ w' = w2) := CODE.out w2 B2.out 1 (by omega)
      obtain ⟨X, hX⟩ : ∃ X, X = w2.alloc (.cells #[.int .i64 1, .int .i64 0] 139) := ⟨_, rfl⟩
      have bX : Below W.heap.size W X := by rw [hX]; exact B2.out.alloc B2.out.size _
      have BX : Hid (Below W.heap.size W X) := bX
      have EX : Hid (Blk X w2.heap.size #[.int .i64 1, .int .i64 0] 139) := by show Blk _ _ _ _; rw [hX]; exact Blk.new _ _ _
      have KEEP : Hid (Calls Tryz.prog 76 #[.pointer (some ⟨b, 0, none⟩), .agg #[.int .i64 (j : Int), .int .i64 q], .agg #[.int .i64 1, .int .i64 0]] X fun e w' => e = .returned (.tuple #[]) ∧ MapM w' bm (M + 1) (setM m j (q, 1, 0)) ∧ Turned [bm] X w') :=
        ledKeep b bm M m j (q, 1, 0) X L0.out.ok hj hqw hM (LW.out.keep bX).map (LW.out.keep bX).blk.lt LW.out.ne (LW.out.keep bX).lasts
      have FIN : Hid (∀ w', MapM w' bm (M + 1) (setM m j (q, 1, 0)) ∧ Turned [bm] X w' → EnterPost b bm M z bs m 1 (j : Int) q ys v E w (.returned (.iface 219 (.pointer (some (E 1))))) w') := fun w' h => by
        have ln := LW.out.ne
        have lb := (LW.out.keep bX).blk
        refine ⟨by rw [← hv], ⟨?_, ?_, ln, LW.out.bok, ?_⟩, ((Turned.ofBelow (BW.out.trans (bX.mono BW.out.size))).trans (h.2.mono (by simp)))⟩
        · show w'.heap[b]? = _
          rw [h.2.block _ lb.lt (by simp; exact fun e => ln e.symm)]; exact lb
        · exact h.1
        · exact L0.out.ok.set (by simp [okT, codeOk, HQ.out.1, HQ.out.2])
      rw [hv]
      have HXX : Hid (X = _) := hX
      clear hX bX CODE hv q0 q1 q2 q3 q4 q5 q6
      obtain ⟨q0, q1, q2, q3, q4, q5, q6⟩ := (QW.out.keep BX.out).cells7
      obtain ⟨e0, e1⟩ := EX.out.cells2
      generalize E 1 = ee at *
      go_wp2_with fail
      refine Calls.mono CB.out ?_
      rintro e w3 ⟨rfl, rfl⟩
      go_upto_region 6 with fail
      rw [← HXX.out]
      go_wp2_with fail
      refine Calls.mono KEEP.out ?_
      rintro e w4 ⟨rfl, hk⟩
      have F := FIN.out w4 hk
      clear hk
      have FF : Hid _ := F
      clear F
      go_wp2_with fail
      go_ret
      exact FF.out
    · have hv : verV E (2 : Int).toNat = .iface 219 (.pointer (some (E 2))) := verV_pos E (by decide)
      have CB : Hid (Calls Tryz.prog 51 #[.iface 219 (.pointer (some (E 2)))] w2 fun e w' => e = .returned (.int .i64 (2 : Int)) ∧ w' = w2) := CODE.out w2 B2.out 2 (by omega)
      obtain ⟨X, hX⟩ : ∃ X, X = w2.alloc (.cells #[.int .i64 2, .int .i64 0] 139) := ⟨_, rfl⟩
      have bX : Below W.heap.size W X := by rw [hX]; exact B2.out.alloc B2.out.size _
      have BX : Hid (Below W.heap.size W X) := bX
      have EX : Hid (Blk X w2.heap.size #[.int .i64 2, .int .i64 0] 139) := by show Blk _ _ _ _; rw [hX]; exact Blk.new _ _ _
      have KEEP : Hid (Calls Tryz.prog 76 #[.pointer (some ⟨b, 0, none⟩), .agg #[.int .i64 (j : Int), .int .i64 q], .agg #[.int .i64 2, .int .i64 0]] X fun e w' => e = .returned (.tuple #[]) ∧ MapM w' bm (M + 1) (setM m j (q, 2, 0)) ∧ Turned [bm] X w') :=
        ledKeep b bm M m j (q, 2, 0) X L0.out.ok hj hqw hM (LW.out.keep bX).map (LW.out.keep bX).blk.lt LW.out.ne (LW.out.keep bX).lasts
      have FIN : Hid (∀ w', MapM w' bm (M + 1) (setM m j (q, 2, 0)) ∧ Turned [bm] X w' → EnterPost b bm M z bs m 2 (j : Int) q ys v E w (.returned (.iface 219 (.pointer (some (E 2))))) w') := fun w' h => by
        have ln := LW.out.ne
        have lb := (LW.out.keep bX).blk
        refine ⟨by rw [← hv], ⟨?_, ?_, ln, LW.out.bok, ?_⟩, ((Turned.ofBelow (BW.out.trans (bX.mono BW.out.size))).trans (h.2.mono (by simp)))⟩
        · show w'.heap[b]? = _
          rw [h.2.block _ lb.lt (by simp; exact fun e => ln e.symm)]; exact lb
        · exact h.1
        · exact L0.out.ok.set (by simp [okT, codeOk, HQ.out.1, HQ.out.2])
      rw [hv]
      have HXX : Hid (X = _) := hX
      clear hX bX CODE hv q0 q1 q2 q3 q4 q5 q6
      obtain ⟨q0, q1, q2, q3, q4, q5, q6⟩ := (QW.out.keep BX.out).cells7
      obtain ⟨e0, e1⟩ := EX.out.cells2
      generalize E 2 = ee at *
      go_wp2_with fail
      refine Calls.mono CB.out ?_
      rintro e w3 ⟨rfl, rfl⟩
      go_upto_region 6 with fail
      rw [← HXX.out]
      go_wp2_with fail
      refine Calls.mono KEEP.out ?_
      rintro e w4 ⟨rfl, hk⟩
      have F := FIN.out w4 hk
      clear hk
      have FF : Hid _ := F
      clear F
      go_wp2_with fail
      go_ret
      exact FF.out
  · have VD : Hid (vd = (sc : Int)) := by show _ = _; rw [V0.out, if_neg hs0]
    clear V0
    have FIN : Hid (∀ w', Below W.heap.size W w' → EnterPost b bm M z bs m vd (j : Int) q ys v E w (.returned (verV E sc)) w') := fun w' hb => by
      have h3 : ¬ vd = 0 := by have := VD.out; omega
      have h4 : ¬ vd < 3 := by have := VD.out; omega
      refine ⟨by rw [VD.out]; rfl, ?_, Turned.ofBelow (BW.out.trans (hb.mono BW.out.size))⟩
      unfold boxesBy keptBy
      rw [if_neg h3, if_neg h4]
      exact (LW.out.keep hb).mono (by omega)
    have hv : verV E sc = .iface 219 (.pointer (some (E sc))) := verV_pos E hs0
    rw [hv] at SEEN FIN
    clear hv VD
    generalize E sc = es at *
    go_enter Tryz.func179, Tryz.ntmps179
    go_wp2_with fail
    rw [← HW.out]
    refine Calls.mono SEEN.out ?_
    rintro e w1 ⟨rfl, hb⟩
    have B1 : Hid (Below W.heap.size W w1) := hb
    clear hb
    go_wp2_with fail
    go_ret
    exact FIN.out _ B1.out
end Go.Proofs.YtbecdihfopjlhaaGreatDoor.Own
