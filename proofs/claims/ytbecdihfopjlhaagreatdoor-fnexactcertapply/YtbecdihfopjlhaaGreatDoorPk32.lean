/-
  Own texts, bundled: ApplyI.
-/
import Derived.Test.YtbecdihfopjlhaaGreatDoorPk31
namespace Go.Proofs.YtbecdihfopjlhaaGreatDoor.Own
open Go.RowKit
set_option linter.unusedVariables false
set_option linter.unusedSimpArgs false

theorem stOk_parts {z : Int} {bs : List P2} {ds : List Q4} (h : stOk z bs ds = true) : 0 ≤ z ∧ z ≤ 40 ∧ boxOk bs = true ∧ donesOkD ds = true := by
  simp only [stOk, Bool.and_eq_true, decide_eq_true_eq] at h
  exact ⟨h.1.1.1, h.1.1.2, h.1.2, h.2⟩
theorem farOf {w : World} {a : Option Addr} {xs : List P2} {b : Nat} (h : Sl w a xs) (hb : w.heap.size ≤ b) : xs = [] ∨ ∀ x, a = some x → x.block ≠ b := by
  rcases h with h | ⟨c, o, rfl, h⟩
  · exact .inl h
  · refine .inr fun x e => ?_
    injection e with e
    subst e
    have := h.1
    simp only
    omega

set_option maxRecDepth 100000 in
set_option maxHeartbeats 4000000 in
theorem implCertApply (N : Nat) (E : Nat → Addr) (z : Int) (a1 a2 : Option Addr) (c1 c2 : Nat) (bs : List P2) (ds : List Q4) (n : Bool) (p q : Int) (b1 b2 : Option Addr) (d1 d2 : Nat) (xs ys : List P2) (v k : Int) (w : World)
    (hE : Errs N w E) (h1 : Sl w a1 bs) (h2 : Sl4 w a2 ds) (hc1 : bs.length ≤ c1) (n2 : ds.length ≤ 2 ^ 40) (h3 : Sl w b1 xs) (h4 : Sl w b2 ys) (m1 : xs.length ≤ 2 ^ 40) (m2 : ys.length ≤ 2 ^ 40) :
    Calls Tryz.prog 14 #[.agg #[.int .i64 z, .slice a1 bs.length c1, .slice a2 ds.length c2], .agg #[.bool n, .int .i64 p, .int .i64 q, .slice b1 xs.length d1, .slice b2 ys.length d2, .int .i64 v, .int .i64 k]] w
      fun e w' => ApplyPost (apZ z bs ds n p q xs ys v k) (apB z bs ds n p q xs ys v k) (apD z bs ds n p q xs ys v k) (apC z bs ds n p q xs ys v k) w e w' := by
  obtain ⟨W, hW⟩ : ∃ W, W = ((w.alloc (.cells #[.int .i64 z, .slice a1 bs.length c1, .slice a2 ds.length c2] 28)).alloc (.cells #[.bool n, .int .i64 p, .int .i64 q, .slice b1 xs.length d1, .slice b2 ys.length d2, .int .i64 v, .int .i64 k] 48)).alloc (.cells #[.int .i64 0, .slice none 0 0, .slice none 0 0] 28) := ⟨_, rfl⟩
  have bW : Below w.heap.size w W := by rw [hW]; exact (((Below.refl _ _).alloc (Nat.le_refl _) _).alloc (by simp) _).alloc (by simp; omega) _
  have BW : Hid (Below w.heap.size w W) := bW
  have PW : Hid (Blk W w.heap.size #[.int .i64 z, .slice a1 bs.length c1, .slice a2 ds.length c2] 28) := by show Blk _ _ _ _; rw [hW]; exact ((Blk.new _ _ _).alloc _).alloc _
  have QW : Hid (Blk W (w.heap.size + 1) #[.bool n, .int .i64 p, .int .i64 q, .slice b1 xs.length d1, .slice b2 ys.length d2, .int .i64 v, .int .i64 k] 48) := by show Blk _ _ _ _; rw [hW]; exact (Blk.new2 _ _ _ _).alloc _
  have ZW : Hid (Blk W (w.heap.size + 1 + 1) #[.int .i64 0, .slice none 0 0, .slice none 0 0] 28) := by show Blk _ _ _ _; rw [hW]; exact Blk.new3 _ _ _ _ _
  have EW : Hid (Errs N W E) := hE.keep bW
  have HN : Hid (N ≤ w.heap.size) := hE.size
  have S1 : Hid (Sl W a1 bs) := h1.below bW
  have S2 : Hid (Sl4 W a2 ds) := h2.below bW
  have S3 : Hid (Sl W b1 xs) := h3.below bW
  have S4 : Hid (Sl W b2 ys) := h4.below bW
  have HW : Hid (W = _) := hW
  have CO : Hid (Calls Tryz.prog 50 #[.agg #[.int .i64 z, .slice a1 bs.length c1, .slice a2 ds.length c2]] W fun e w' => e = .returned (.bool (stOk z bs ds)) ∧ Below W.heap.size W w') := implCertOk z a1 a2 c1 c2 bs ds W S1.out S2.out hc1 n2
  -- the answer where nothing may come in: the three cells are nothing as they were
  have BAD : Hid (goodA z bs ds n p q xs ys v k = false → ∀ w', Below w.heap.size w w' → ApplyPost (apZ z bs ds n p q xs ys v k) (apB z bs ds n p q xs ys v k) (apD z bs ds n p q xs ys v k) (apC z bs ds n p q xs ys v k) w (.returned (.tuple #[.agg #[.int .i64 0, .slice none 0 0, .slice none 0 0], .int .i64 (-1)])) w') := fun hg w' hb => by
    obtain ⟨e1, e2, e3, e4⟩ := apply_bad hg
    rw [e1, e2, e3, e4]
    exact ⟨none, none, 0, 0, rfl, Nat.le_refl _, Nat.le_refl _, StB.empty _ _, hb⟩
  have GOOD : Hid (goodA z bs ds n p q xs ys v k = true → ∀ w' g a c cd, cd = codeA bs ds n p q xs ys v k → (listM (keptBy (codeA bs ds n p q xs ys v k) (mOf ds) p q v)).length ≤ c → StB (boxesBy (codeA bs ds n p q xs ys v k) bs ys) (listM (keptBy (codeA bs ds n p q xs ys v k) (mOf ds) p q v)) w.heap.size w' (some ⟨g, 0, none⟩) a → (boxesBy (codeA bs ds n p q xs ys v k) bs ys).length = 4 → Below w.heap.size w w' →
      ApplyPost (apZ z bs ds n p q xs ys v k) (apB z bs ds n p q xs ys v k) (apD z bs ds n p q xs ys v k) (apC z bs ds n p q xs ys v k) w (.returned (.tuple #[.agg #[.int .i64 (z + 1), .slice (some ⟨g, 0, none⟩) 4 4, .slice a (listM (keptBy (codeA bs ds n p q xs ys v k) (mOf ds) p q v)).length c], .int .i64 cd])) w') := fun hg w' g a c cd hcd hc hs hl hb => by
    obtain ⟨e1, e2, e3, e4⟩ := apply_good hg
    rw [e1, e2, e3, e4, hcd]
    exact ⟨some ⟨g, 0, none⟩, a, 4, c, by rw [hl], by omega, hc, hs, hb⟩
  obtain ⟨p0, p1, p2⟩ := PW.out.cells3
  clear hE h1 h2 h3 h4 hW bW
  cases hst : stOk z bs ds with
  | false =>
    have hg : goodA z bs ds n p q xs ys v k = false := by unfold goodA; rw [hst]; rfl
    rw [hst] at CO
    have F : Hid _ := BAD.out hg
    clear GOOD BAD hg hst
    go_enter Tryz.func14, Tryz.ntmps14
    go_wp2_with fail
    rw [← HW.out]
    refine Calls.mono CO.out ?_
    rintro e w1 ⟨rfl, hb⟩
    have B1 : Hid (Below w.heap.size w w1) := BW.out.trans (hb.mono BW.out.size)
    have Z1 : Hid (Blk w1 (w.heap.size + 1 + 1) #[.int .i64 0, .slice none 0 0, .slice none 0 0] 28) := ZW.out.keep hb
    obtain ⟨z0, z1, z2⟩ := Z1.out.cells3
    have fz := Z1.out.frozen
    clear hb
    have ZS : Hid (Blk (((w1.setCell ⟨w.heap.size + 1 + 1, 0, none⟩ (.int .i64 0)).setCell ⟨w.heap.size + 1 + 1, 1, none⟩ (.slice none 0 0)).setCell ⟨w.heap.size + 1 + 1, 2, none⟩ (.slice none 0 0)) (w.heap.size + 1 + 1) #[.int .i64 0, .slice none 0 0, .slice none 0 0] 28) := (((Z1.out.set 0 _).set 1 _).set 2 _).eq rfl
    have BS : Hid (Below w.heap.size w (((w1.setCell ⟨w.heap.size + 1 + 1, 0, none⟩ (.int .i64 0)).setCell ⟨w.heap.size + 1 + 1, 1, none⟩ (.slice none 0 0)).setCell ⟨w.heap.size + 1 + 1, 2, none⟩ (.slice none 0 0))) := ((B1.out.setCell (by show w.heap.size ≤ w.heap.size + 1 + 1; omega) _).setCell (by show w.heap.size ≤ w.heap.size + 1 + 1; omega) _).setCell (by show w.heap.size ≤ w.heap.size + 1 + 1; omega) _
    go_wp2_with fail
    obtain ⟨c0, c1', c2'⟩ := ZS.out.cells3
    refine bodyPost_ret (v := .tuple #[.agg #[.int .i64 0, .slice none 0 0, .slice none 0 0], .int .i64 (-1)]) (by simp [results, Tryz.results14, go_sem, c0, c1', c2']) rfl ?_
    exact F.out _ BS.out
  | true =>
    obtain ⟨hz0, hz1, hbo, hdo⟩ := stOk_parts hst
    rw [hst] at CO
    have HST : Hid (stOk z bs ds = true) := hst
    have LO : Hid (∀ V, Below W.heap.size W V → Calls Tryz.prog 33 #[.agg #[.int .i64 z, .slice a1 bs.length c1, .slice a2 ds.length c2]] V fun e w' => ∃ g bm, e = .returned (.pointer (some ⟨g, 0, none⟩)) ∧ Led w' g bm 3 z bs (mOf ds) ∧ V.heap.size ≤ g ∧ V.heap.size ≤ bm ∧ Below V.heap.size V w') := fun V hV => ledgerOf z a1 a2 c1 c2 bs ds V (S1.out.below hV) (S2.out.below hV) hc1 hbo hdo
    have SZ : Hid (W.heap.size = w.heap.size + 1 + 1 + 1) := by show _ = _; rw [HW.out]; simp
    clear hst hbo hdo
    go_enter Tryz.func14, Tryz.ntmps14
    go_wp2_with fail
    rw [← HW.out]
    refine Calls.mono CO.out ?_
    rintro e w1 ⟨rfl, hb⟩
    have B1 : Hid (Below W.heap.size W w1) := hb
    clear hb p0 p1 p2
    obtain ⟨p0, p1, p2⟩ := (PW.out.keep B1.out).cells3
    go_wp2_with fail
    refine Calls.mono (LO.out w1 B1.out) ?_
    rintro e w2 ⟨g, bm, rfl, hl, hg, hbm, hb⟩
    have B2 : Hid (Below W.heap.size W w2) := B1.out.trans (hb.mono B1.out.size)
    have L2 : Hid (Led w2 g bm 3 z bs (mOf ds)) := hl
    have HG : Hid (W.heap.size ≤ g ∧ W.heap.size ≤ bm) := ⟨Nat.le_trans B1.out.size hg, Nat.le_trans B1.out.size hbm⟩
    have E2 : Hid (Errs N w2 E) := EW.out.keep B2.out
    clear hb hl hg hbm p0 p1 p2
    obtain ⟨q0, q1, q2, q3, q4, q5, q6⟩ := (QW.out.keep B2.out).cells7
    by_cases hgood : z ≠ 40 ∧ entOk n p q xs ys v k = true
    · have hgd : goodA z bs ds n p q xs ys v k = true := by
        unfold goodA; rw [HST.out, hgood.2]; simp [hgood.1]
      have F0 := GOOD.out hgd
      have F : Hid _ := F0
      have hzl : z < 40 := by have := hgood.1; omega
      have HC := verdict_range bs (mOf ds) n p q xs ys v k
      have TAKE : Hid (Calls Tryz.prog 36 #[.pointer (some ⟨g, 0, none⟩), .agg #[.bool n, .int .i64 p, .int .i64 q, .slice b1 xs.length d1, .slice b2 ys.length d2, .int .i64 v, .int .i64 k]] w2 fun e w' => EnterPost g bm 3 (z + 1) bs (mOf ds) (verdict bs (mOf ds) n p q xs ys v k) p q ys v E w2 e w') :=
        ledTake g bm 3 N z bs (mOf ds) E n p q b1 b2 d1 d2 xs ys v k w2 L2.out (by omega) E2.out (by have := HN.out; have := BW.out.size; have := HG.out.1; omega) (S3.out.below B2.out) (S4.out.below B2.out) (farOf S3.out HG.out.1) (farOf S4.out HG.out.1) m1 m2 hz0 hzl hgood.2
      have CA : Hid (codeA bs ds n p q xs ys v k = verdict bs (mOf ds) n p q xs ys v k) := rfl
      rw [CA.out] at F
      generalize verdict bs (mOf ds) n p q xs ys v k = vd at *
      obtain ⟨ci, rfl⟩ := Int.eq_ofNat_of_zero_le HC.1
      have hci : ci < 6 := by have := HC.2; omega
      clear F0 GOOD BAD hgd hgood HC CA
      go_wp2_with fail
      refine Calls.mono TAKE.out ?_
      rintro e w3 ⟨rfl, hl, ht⟩
      have L3 : Hid (Led w3 g bm (3 + 1) (z + 1) (boxesBy (ci : Int) bs ys) (keptBy (ci : Int) (mOf ds) p q v)) := hl
      have B3 : Hid (Below W.heap.size W w3) := B2.out.trans (ht.below (fun x hx => by simp at hx; rcases hx with rfl | rfl; exact HG.out.1; exact HG.out.2) B2.out.size)
      have hE3 : Errs N w3 E := EW.out.below (B3.out.mono (by have := HN.out; have := BW.out.size; omega))
      have E3 : Hid (Errs N w3 E) := hE3
      have g0 := hE3.g0
      clear hl ht hE3 q0 q1 q2 q3 q4 q5 q6
      rw [show (ci : Int).toNat = ci from Int.toNat_natCast ci]
      go_wp2_with fail
      refine Calls.mono (E3.out.is0 ci hci) ?_
      rintro e w3 ⟨rfl, rfl⟩
      have LS := ledState g bm (3 + 1) (z + 1) (boxesBy (ci : Int) bs ys) (keptBy (ci : Int) (mOf ds) p q v) w3 L3.out
      have L4 : Hid ((boxesBy (ci : Int) bs ys).length = 4) := L3.out.four
      clear g0 L3
      go_wp2_with fail
      refine Calls.mono LS ?_
      rintro e w4 ⟨g4, a4, c4, rfl, hc4, hs4, hb4⟩
      have B4 : Hid (Below W.heap.size W w4) := B3.out.trans (hb4.mono B3.out.size)
      have CC : Hid (Calls Tryz.prog 51 #[verV E ci] w4 fun e w' => e = .returned (.int .i64 (ci : Int)) ∧ w' = w4) := certCode N E w4 (E3.out.keep hb4) ci hci
      have H4 : Hid (StB (boxesBy (ci : Int) bs ys) (listM (keptBy (ci : Int) (mOf ds) p q v)) w3.heap.size w4 (some ⟨g4, 0, none⟩) a4) := hs4
      have Z4 : Hid (Blk w4 (w.heap.size + 1 + 1) #[.int .i64 0, .slice none 0 0, .slice none 0 0] 28) := ZW.out.keep B4.out
      have HC4 : Hid ((listM (keptBy (ci : Int) (mOf ds) p q v)).length ≤ c4) := hc4
      obtain ⟨z0, z1, z2⟩ := Z4.out.cells3
      have fz := Z4.out.frozen
      clear hs4 hb4 hc4 LS
      generalize boxesBy (ci : Int) bs ys = bn at *
      generalize listM (keptBy (ci : Int) (mOf ds) p q v) = dn at *
      have ZS : Hid (Blk (((w4.setCell ⟨w.heap.size + 1 + 1, 0, none⟩ (.int .i64 (z + 1))).setCell ⟨w.heap.size + 1 + 1, 1, none⟩ (.slice (some ⟨g4, 0, none⟩) 4 4)).setCell ⟨w.heap.size + 1 + 1, 2, none⟩ (.slice a4 dn.length c4)) (w.heap.size + 1 + 1) #[.int .i64 (z + 1), .slice (some ⟨g4, 0, none⟩) 4 4, .slice a4 dn.length c4] 28 ∧
          StB bn dn w.heap.size (((w4.setCell ⟨w.heap.size + 1 + 1, 0, none⟩ (.int .i64 (z + 1))).setCell ⟨w.heap.size + 1 + 1, 1, none⟩ (.slice (some ⟨g4, 0, none⟩) 4 4)).setCell ⟨w.heap.size + 1 + 1, 2, none⟩ (.slice a4 dn.length c4)) (some ⟨g4, 0, none⟩) a4 ∧
          Below w.heap.size w (((w4.setCell ⟨w.heap.size + 1 + 1, 0, none⟩ (.int .i64 (z + 1))).setCell ⟨w.heap.size + 1 + 1, 1, none⟩ (.slice (some ⟨g4, 0, none⟩) 4 4)).setCell ⟨w.heap.size + 1 + 1, 2, none⟩ (.slice a4 dn.length c4))) := by
        have sz := SZ.out
        have s3 := B3.out.size
        have ho : Only (w.heap.size + 1 + 1) w4 (((w4.setCell ⟨w.heap.size + 1 + 1, 0, none⟩ (.int .i64 (z + 1))).setCell ⟨w.heap.size + 1 + 1, 1, none⟩ (.slice (some ⟨g4, 0, none⟩) 4 4)).setCell ⟨w.heap.size + 1 + 1, 2, none⟩ (.slice a4 dn.length c4)) := (((Only.refl _ _).setCell _).setCell _).setCell _
        have bk := ((Z4.out.set 0 (.int .i64 (z + 1))).set 1 (.slice (some ⟨g4, 0, none⟩) 4 4)).set 2 (.slice a4 dn.length c4)
        refine ⟨bk.eq (by simp), (H4.out.turned (Turned.ofOnly (L := [w.heap.size + 1 + 1]) ho (by simp)) (fun x e => ?_) (fun x e => ?_)).weaken (by omega), BW.out.trans ((B4.out.mono BW.out.size).trans (ho.below (by omega)))⟩
        · have := (H4.out.far1 x e).1
          simp; omega
        · have := (H4.out.far2 x e).1
          simp; omega
      go_wp2_with fail
      refine Calls.mono CC.out ?_
      rintro e w4 ⟨rfl, rfl⟩
      go_wp2_with fail
      obtain ⟨c0, c1', c2'⟩ := ZS.out.1.cells3
      refine bodyPost_ret (v := .tuple #[.agg #[.int .i64 (z + 1), .slice (some ⟨g4, 0, none⟩) 4 4, .slice a4 dn.length c4], .int .i64 (ci : Int)]) (by simp [results, Tryz.results14, go_sem, c0, c1', c2']) rfl ?_
      exact F.out _ g4 a4 c4 _ rfl HC4.out ZS.out.2.1 L4.out ZS.out.2.2
    · have hbad : z = 40 ∨ entOk n p q xs ys v k = false := by
        by_cases e : z = 40
        · exact .inl e
        · right
          cases h : entOk n p q xs ys v k with
          | false => rfl
          | true => exact absurd ⟨e, h⟩ hgood
      have hgd : goodA z bs ds n p q xs ys v k = false := by
        unfold goodA
        rcases hbad with h | h
        · rw [h]; simp
        · rw [h]; simp
      have F0 := BAD.out hgd
      have F : Hid _ := F0
      have TAKE : Hid (Calls Tryz.prog 36 #[.pointer (some ⟨g, 0, none⟩), .agg #[.bool n, .int .i64 p, .int .i64 q, .slice b1 xs.length d1, .slice b2 ys.length d2, .int .i64 v, .int .i64 k]] w2 fun e w' => e = .returned (.iface 219 (.pointer (some (E 0)))) ∧ Below w2.heap.size w2 w') :=
        ledTakeBad g bm 3 N z bs (mOf ds) E n p q b1 b2 d1 d2 xs ys v k w2 L2.out E2.out (S3.out.below B2.out) (S4.out.below B2.out) m1 m2 hbad
      clear F0 GOOD BAD hgd hgood hbad
      go_wp2_with fail
      refine Calls.mono TAKE.out ?_
      rintro e w3 ⟨rfl, hb⟩
      have B3 : Hid (Below W.heap.size W w3) := B2.out.trans (hb.mono B2.out.size)
      have g0 := (E2.out.keep hb).g0
      clear hb q0 q1 q2 q3 q4 q5 q6
      have IS : Hid (Calls Tryz.prog 35 #[.iface 219 (.pointer (some (E 0))), .iface 219 (.pointer (some (E 0)))] w3 fun e w' => e = .returned (.bool true) ∧ w' = w3) := isSame (E 0) w3
      go_wp2_with fail
      refine Calls.mono IS.out ?_
      rintro e w3 ⟨rfl, rfl⟩
      have Z1 : Hid (Blk w3 (w.heap.size + 1 + 1) #[.int .i64 0, .slice none 0 0, .slice none 0 0] 28) := ZW.out.keep B3.out
      obtain ⟨z0, z1, z2⟩ := Z1.out.cells3
      have fz := Z1.out.frozen
      have ZS : Hid (Blk (((w3.setCell ⟨w.heap.size + 1 + 1, 0, none⟩ (.int .i64 0)).setCell ⟨w.heap.size + 1 + 1, 1, none⟩ (.slice none 0 0)).setCell ⟨w.heap.size + 1 + 1, 2, none⟩ (.slice none 0 0)) (w.heap.size + 1 + 1) #[.int .i64 0, .slice none 0 0, .slice none 0 0] 28) := (((Z1.out.set 0 _).set 1 _).set 2 _).eq (by first | rfl | simp)
      have BS : Hid (Below w.heap.size w (((w3.setCell ⟨w.heap.size + 1 + 1, 0, none⟩ (.int .i64 0)).setCell ⟨w.heap.size + 1 + 1, 1, none⟩ (.slice none 0 0)).setCell ⟨w.heap.size + 1 + 1, 2, none⟩ (.slice none 0 0))) := (((BW.out.trans (B3.out.mono BW.out.size)).setCell (by show w.heap.size ≤ w.heap.size + 1 + 1; omega) _).setCell (by show w.heap.size ≤ w.heap.size + 1 + 1; omega) _).setCell (by show w.heap.size ≤ w.heap.size + 1 + 1; omega) _
      go_wp2_with fail
      obtain ⟨c0, c1', c2'⟩ := ZS.out.cells3
      refine bodyPost_ret (v := .tuple #[.agg #[.int .i64 0, .slice none 0 0, .slice none 0 0], .int .i64 (-1)]) (by simp [results, Tryz.results14, go_sem, c0, c1', c2']) rfl ?_
      exact F.out _ BS.out
end Go.Proofs.YtbecdihfopjlhaaGreatDoor.Own
