/-
  Own texts, bundled: SpecCert.
-/
import Derived.Test.YtbecdihfopjlhaaGreatDoorPk23
import Derived.Test.YtbecdihfopjlhaaGreatDoorPk24
import Derived.Test.YtbecdihfopjlhaaGreatDoorPk27
import Derived.Test.YtbecdihfopjlhaaGreatDoorPk26
namespace Go.Proofs.YtbecdihfopjlhaaGreatDoor.Own
open Go.RowKit
set_option linter.unusedVariables false
set_option linter.unusedSimpArgs false

theorem stOk_partsS {z : Int} {bs : List P2} {ds : List Q4} (h : stOk z bs ds = true) : 0 ≤ z ∧ z ≤ 40 ∧ boxOk bs = true ∧ donesOkD ds = true := by
  simp only [stOk, Bool.and_eq_true, decide_eq_true_eq] at h
  exact ⟨h.1.1.1, h.1.1.2, h.1.2, h.2⟩
theorem farOfS {w : World} {a : Option Addr} {xs : List P2} {b : Nat} (h : Sl w a xs) (hb : w.heap.size ≤ b) : xs = [] ∨ ∀ x, a = some x → x.block ≠ b := by
  rcases h with h | ⟨c, o, rfl, h⟩
  · exact .inl h
  · refine .inr fun x e => ?_
    injection e with e
    subst e
    have := h.1
    simp only
    omega

set_option maxRecDepth 100000 in
set_option maxHeartbeats 4000000 in
theorem specCertApply (z : Int) (a1 a2 : Option Addr) (c1 c2 : Nat) (bs : List P2) (ds : List Q4) (n : Bool) (p q : Int) (b1 b2 : Option Addr) (d1 d2 : Nat) (xs ys : List P2) (v k : Int) (w : World)
    (h1 : Sl w a1 bs) (h2 : Sl4 w a2 ds) (n1 : bs.length ≤ 2 ^ 40) (n2 : ds.length ≤ 2 ^ 40) (h3 : Sl w b1 xs) (h4 : Sl w b2 ys) (m1 : xs.length ≤ 2 ^ 40) (m2 : ys.length ≤ 2 ^ 40) (hd1 : xs.length ≤ d1) (hd2 : ys.length ≤ d2) :
    Calls Tryz.prog 19 #[.agg #[.int .i64 z, .slice a1 bs.length c1, .slice a2 ds.length c2], .agg #[.bool n, .int .i64 p, .int .i64 q, .slice b1 xs.length d1, .slice b2 ys.length d2, .int .i64 v, .int .i64 k]] w
      fun e w' => ApplyPost (apZ z bs ds n p q xs ys v k) (apB z bs ds n p q xs ys v k) (apD z bs ds n p q xs ys v k) (apC z bs ds n p q xs ys v k) w e w' := by
  obtain ⟨W, hW⟩ : ∃ W, W = ((w.alloc (.cells #[.int .i64 z, .slice a1 bs.length c1, .slice a2 ds.length c2] 28)).alloc (.cells #[.bool n, .int .i64 p, .int .i64 q, .slice b1 xs.length d1, .slice b2 ys.length d2, .int .i64 v, .int .i64 k] 48)).alloc (.cells #[.int .i64 0, .slice none 0 0, .slice none 0 0] 28) := ⟨_, rfl⟩
  have bW : Below w.heap.size w W := by rw [hW]; exact (((Below.refl _ _).alloc (Nat.le_refl _) _).alloc (by simp) _).alloc (by simp; omega) _
  have BW : Hid (Below w.heap.size w W) := bW
  have PW : Hid (Blk W w.heap.size #[.int .i64 z, .slice a1 bs.length c1, .slice a2 ds.length c2] 28) := by show Blk _ _ _ _; rw [hW]; exact ((Blk.new _ _ _).alloc _).alloc _
  have QW : Hid (Blk W (w.heap.size + 1) #[.bool n, .int .i64 p, .int .i64 q, .slice b1 xs.length d1, .slice b2 ys.length d2, .int .i64 v, .int .i64 k] 48) := by show Blk _ _ _ _; rw [hW]; exact (Blk.new2 _ _ _ _).alloc _
  have ZW : Hid (Blk W (w.heap.size + 1 + 1) #[.int .i64 0, .slice none 0 0, .slice none 0 0] 28) := by show Blk _ _ _ _; rw [hW]; exact Blk.new3 _ _ _ _ _
  have SZ : Hid (W.heap.size = w.heap.size + 1 + 1 + 1) := by show _ = _; rw [hW]; simp
  have S1 : Hid (Sl W a1 bs) := h1.below bW
  have S2 : Hid (Sl4 W a2 ds) := h2.below bW
  have S3 : Hid (Sl W b1 xs) := h3.below bW
  have S4 : Hid (Sl W b2 ys) := h4.below bW
  have HW : Hid (W = _) := hW
  have CO : Hid (Calls Tryz.prog 56 #[.agg #[.int .i64 z, .slice a1 bs.length c1, .slice a2 ds.length c2]] W fun e w' => e = .returned (.bool (stOk z bs ds)) ∧ Below W.heap.size W w') := specCertOk z a1 a2 c1 c2 bs ds W S1.out S2.out n1 n2
  have CE : Hid (∀ V, Below W.heap.size W V → Calls Tryz.prog 40 #[.agg #[.bool n, .int .i64 p, .int .i64 q, .slice b1 xs.length d1, .slice b2 ys.length d2, .int .i64 v, .int .i64 k]] V fun e w' => e = .returned (.bool (entOk n p q xs ys v k)) ∧ Below V.heap.size V w') := fun V hV =>
    specCertEntry n p q b1 b2 d1 d2 xs ys v k V (S3.out.below hV) (S4.out.below hV) m1 m2 hd1 hd2
  have BAD : Hid (goodA z bs ds n p q xs ys v k = false → ∀ w', Below w.heap.size w w' → ApplyPost (apZ z bs ds n p q xs ys v k) (apB z bs ds n p q xs ys v k) (apD z bs ds n p q xs ys v k) (apC z bs ds n p q xs ys v k) w (.returned (.tuple #[.agg #[.int .i64 0, .slice none 0 0, .slice none 0 0], .int .i64 (-1)])) w') := fun hg w' hb => by
    obtain ⟨e1, e2, e3, e4⟩ := apply_bad hg
    rw [e1, e2, e3, e4]
    exact ⟨none, none, 0, 0, rfl, Nat.le_refl _, Nat.le_refl _, StB.empty _ _, hb⟩
  have ZB : Hid (∀ V, Below W.heap.size W V → Blk (((V.setCell ⟨w.heap.size + 1 + 1, 0, none⟩ (.int .i64 0)).setCell ⟨w.heap.size + 1 + 1, 1, none⟩ (.slice none 0 0)).setCell ⟨w.heap.size + 1 + 1, 2, none⟩ (.slice none 0 0)) (w.heap.size + 1 + 1) #[.int .i64 0, .slice none 0 0, .slice none 0 0] 28 ∧
      Below w.heap.size w (((V.setCell ⟨w.heap.size + 1 + 1, 0, none⟩ (.int .i64 0)).setCell ⟨w.heap.size + 1 + 1, 1, none⟩ (.slice none 0 0)).setCell ⟨w.heap.size + 1 + 1, 2, none⟩ (.slice none 0 0))) := fun V hV => by
    have h := (((ZW.out.keep hV).set 0 (.int .i64 0)).set 1 (.slice none 0 0)).set 2 (.slice none 0 0)
    have on : Only (w.heap.size + 1 + 1) V (((V.setCell ⟨w.heap.size + 1 + 1, 0, none⟩ (.int .i64 0)).setCell ⟨w.heap.size + 1 + 1, 1, none⟩ (.slice none 0 0)).setCell ⟨w.heap.size + 1 + 1, 2, none⟩ (.slice none 0 0)) := (((Only.refl _ _).setCell _).setCell _).setCell _
    exact ⟨h.eq (by simp), (BW.out.trans (hV.mono BW.out.size)).trans (on.below (by omega))⟩
  obtain ⟨p0, p1, p2⟩ := PW.out.cells3
  clear h1 h2 h3 h4 hW bW
  cases hst : stOk z bs ds with
  | false =>
    have hg : goodA z bs ds n p q xs ys v k = false := by unfold goodA; rw [hst]; rfl
    rw [hst] at CO
    have F : Hid _ := BAD.out hg
    clear BAD hg hst CE
    go_enter Tryz.func19, Tryz.ntmps19
    go_wp2_with fail
    rw [← HW.out]
    refine Calls.mono CO.out ?_
    rintro e w1 ⟨rfl, hb⟩
    have ZS : Hid _ := ZB.out w1 hb
    obtain ⟨z0, z1, z2⟩ := (ZW.out.keep hb).cells3
    have fz := (ZW.out.keep hb).frozen
    clear hb
    go_wp2_with fail
    obtain ⟨c0, c1', c2'⟩ := ZS.out.1.cells3
    refine bodyPost_ret (v := .tuple #[.agg #[.int .i64 0, .slice none 0 0, .slice none 0 0], .int .i64 (-1)]) (by simp [results, Tryz.results19, go_sem, c0, c1', c2']) rfl ?_
    exact F.out _ ZS.out.2
  | true =>
    obtain ⟨hz0, hz1, hbo, hdo⟩ := stOk_partsS hst
    rw [hst] at CO
    have HST : Hid (stOk z bs ds = true) := hst
    have HBO : Hid (boxOk bs = true) := hbo
    have HDO : Hid (donesOkD ds = true) := hdo
    clear hst hbo hdo
    cases hen : entOk n p q xs ys v k with
    | false =>
      have hg : goodA z bs ds n p q xs ys v k = false := by unfold goodA; rw [hen]; simp
      rw [hen] at CE
      have F : Hid _ := BAD.out hg
      clear BAD hg hen
      go_enter Tryz.func19, Tryz.ntmps19
      go_wp2_with fail
      rw [← HW.out]
      refine Calls.mono CO.out ?_
      rintro e w1 ⟨rfl, hb⟩
      have B1 : Hid (Below W.heap.size W w1) := hb
      clear hb p0 p1 p2
      obtain ⟨q0, q1, q2, q3, q4, q5, q6⟩ := (QW.out.keep B1.out).cells7
      go_wp2_with fail
      refine Calls.mono (CE.out w1 B1.out) ?_
      rintro e w2 ⟨rfl, hb⟩
      have B2 := B1.out.trans (hb.mono B1.out.size)
      have ZS : Hid _ := ZB.out w2 B2
      obtain ⟨z0, z1, z2⟩ := (ZW.out.keep B2).cells3
      have fz := (ZW.out.keep B2).frozen
      clear hb B2 q0 q1 q2 q3 q4 q5 q6
      go_wp2_with fail
      obtain ⟨c0, c1', c2'⟩ := ZS.out.1.cells3
      refine bodyPost_ret (v := .tuple #[.agg #[.int .i64 0, .slice none 0 0, .slice none 0 0], .int .i64 (-1)]) (by simp [results, Tryz.results19, go_sem, c0, c1', c2']) rfl ?_
      exact F.out _ ZS.out.2
    | true =>
      rw [hen] at CE
      by_cases hz : z = 40
      · have hg : goodA z bs ds n p q xs ys v k = false := by unfold goodA; rw [hz]; simp
        have F : Hid _ := BAD.out hg
        have ez : (z == 40) = true := by simp [hz]
        clear BAD hg hen hz
        go_enter Tryz.func19, Tryz.ntmps19
        go_wp2_with fail
        rw [← HW.out]
        refine Calls.mono CO.out ?_
        rintro e w1 ⟨rfl, hb⟩
        have B1 : Hid (Below W.heap.size W w1) := hb
        clear hb p0 p1 p2
        obtain ⟨q0, q1, q2, q3, q4, q5, q6⟩ := (QW.out.keep B1.out).cells7
        go_wp2_with fail
        refine Calls.mono (CE.out w1 B1.out) ?_
        rintro e w2 ⟨rfl, hb⟩
        have B2 := B1.out.trans (hb.mono B1.out.size)
        have ZS : Hid _ := ZB.out w2 B2
        obtain ⟨z0, z1, z2⟩ := (ZW.out.keep B2).cells3
        obtain ⟨p0, p1, p2⟩ := (PW.out.keep B2).cells3
        have fz := (ZW.out.keep B2).frozen
        clear hb B2 q0 q1 q2 q3 q4 q5 q6
        go_wp2_with fail
        obtain ⟨c0, c1', c2'⟩ := ZS.out.1.cells3
        refine bodyPost_ret (v := .tuple #[.agg #[.int .i64 0, .slice none 0 0, .slice none 0 0], .int .i64 (-1)]) (by simp [results, Tryz.results19, go_sem, c0, c1', c2']) rfl ?_
        exact F.out _ ZS.out.2
      · have hg : goodA z bs ds n p q xs ys v k = true := by unfold goodA; rw [HST.out, hen]; simp [hz]
        obtain ⟨ea, eb, ec, ed⟩ := apply_good hg
        obtain ⟨m, hm, hdm, hm3⟩ := dones_listM HDO.out
        have emo : mOf ds = m := by rw [hdm]; exact mOf_listM m hm3
        have ecd : codeA bs ds n p q xs ys v k = verdict bs m n p q xs ys v k := by unfold codeA; rw [emo]
        have LD : ds.length ≤ 1000 := by rw [hdm]; have := listM_len m; omega
        have ez : (z == 40) = false := by simp [hz]
        have HENT : Hid (entOk n p q xs ys v k = true) := hen
        have L4 := boxOk_len HBO.out
        have COPY : Hid (∀ V, Below W.heap.size W V → Calls Tryz.prog 57 #[.agg #[.int .i64 z, .slice a1 bs.length c1, .slice a2 ds.length c2]] V fun e w' => ∃ g1 e1 g2 e2, e = .returned (.agg #[.int .i64 z, .slice (some ⟨g1, 0, none⟩) 4 e1, .slice (some ⟨g2, 0, none⟩) ds.length e2]) ∧ Hid (StB bs ds V.heap.size w' (some ⟨g1, 0, none⟩) (some ⟨g2, 0, none⟩) ∧ 4 ≤ e1 ∧ ds.length ≤ e2 ∧ Below V.heap.size V w')) := fun V hV =>
          specCopy z a1 a2 c1 c2 bs ds V (S1.out.below hV) L4 (S2.out.below hV) LD
        have APPLY : Hid (∀ (V w1 : World) (g1 e1 g2 e2 : Nat), Below W.heap.size W V → StB bs ds V.heap.size w1 (some ⟨g1, 0, none⟩) (some ⟨g2, 0, none⟩) → ds.length ≤ e2 → Below V.heap.size V w1 → Calls Tryz.prog 41 #[.agg #[.int .i64 z, .slice (some ⟨g1, 0, none⟩) 4 e1, .slice (some ⟨g2, 0, none⟩) ds.length e2], .agg #[.bool n, .int .i64 p, .int .i64 q, .slice b1 xs.length d1, .slice b2 ys.length d2, .int .i64 v, .int .i64 k]] w1
            fun e w' => SpecPost (z + 1) (boxesBy (verdict bs m n p q xs ys v k) bs ys) (listM (keptBy (verdict bs m n p q xs ys v k) m p q v)) (verdict bs m n p q xs ys v k) V.heap.size g1 e1 w1 e w') := fun V w1 g1 e1 g2 e2 hV hS he2 hb => by
          have b1w := hV.trans (hb.mono hV.size)
          exact specApply z g1 e1 g2 e2 V.heap.size bs ds m n p q b1 b2 d1 d2 xs ys v k w1 hz0 hz1 hdm hm he2 HBO.out hS (S3.out.below b1w) (S4.out.below b1w) (farOfS (S4.out.below hV) (hS.far1 _ rfl).1) m1 m2 hd1 hd2 HENT.out
        rw [ea, eb, ec, ed, ecd, emo]
        have BL : Hid ((boxesBy (verdict bs m n p q xs ys v k) bs ys).length = 4) := by
          show _ = _
          unfold boxesBy
          split
          · rw [doPuts_length]; exact L4
          · exact L4
        generalize verdict bs m n p q xs ys v k = vd at APPLY BL ⊢
        generalize boxesBy vd bs ys = bn at APPLY BL ⊢
        generalize listM (keptBy vd m p q v) = dn at APPLY ⊢
        have FIN : Hid (∀ (w1 w5 : World) (g1 e1 g2 e2 : Nat), Below W.heap.size W w1 → 4 ≤ e1 → dn.length ≤ e2 → StB bn dn w1.heap.size w5 (some ⟨g1, 0, none⟩) (some ⟨g2, 0, none⟩) → Below w1.heap.size w1 w5 → ∀ X, X = (((w5.setCell ⟨w.heap.size + 1 + 1, 0, none⟩ (.int .i64 (z + 1))).setCell ⟨w.heap.size + 1 + 1, 1, none⟩ (.slice (some ⟨g1, 0, none⟩) 4 e1)).setCell ⟨w.heap.size + 1 + 1, 2, none⟩ (.slice (some ⟨g2, 0, none⟩) dn.length e2)) →
            Blk X (w.heap.size + 1 + 1) #[.int .i64 (z + 1), .slice (some ⟨g1, 0, none⟩) 4 e1, .slice (some ⟨g2, 0, none⟩) dn.length e2] 28 ∧ ApplyPost (z + 1) bn dn vd w (.returned (.tuple #[.agg #[.int .i64 (z + 1), .slice (some ⟨g1, 0, none⟩) 4 e1, .slice (some ⟨g2, 0, none⟩) dn.length e2], .int .i64 vd])) X) := fun w1 w5 g1 e1 g2 e2 hV he1 he2 hS hb X hX => by
          have sz := SZ.out
          have s1 := hV.size
          have b5 := hV.trans (hb.mono hV.size)
          have zb := (((ZW.out.keep b5).set 0 (.int .i64 (z + 1))).set 1 (.slice (some ⟨g1, 0, none⟩) 4 e1)).set 2 (.slice (some ⟨g2, 0, none⟩) dn.length e2)
          have on : Only (w.heap.size + 1 + 1) w5 X := by rw [hX]; exact (((Only.refl _ _).setCell _).setCell _).setCell _
          refine ⟨by rw [hX]; exact zb.eq (by simp), some ⟨g1, 0, none⟩, some ⟨g2, 0, none⟩, e1, e2, by rw [BL.out], by rw [BL.out]; exact he1, he2, (hS.turned (Turned.ofOnly (L := [w.heap.size + 1 + 1]) on (by simp)) (fun x e => ?_) (fun x e => ?_)).weaken (by omega), (BW.out.trans (b5.mono BW.out.size)).trans (on.below (by omega))⟩
          · have := (hS.far1 x e).1
            simp; omega
          · have := (hS.far2 x e).1
            simp; omega
        clear BAD ZB hg ea eb ec ed hm hdm hm3 emo ecd hz hen L4
        go_enter Tryz.func19, Tryz.ntmps19
        go_wp2_with fail
        rw [← HW.out]
        refine Calls.mono CO.out ?_
        rintro e w1 ⟨rfl, hb⟩
        have B1 : Hid (Below W.heap.size W w1) := hb
        clear hb p0 p1 p2
        obtain ⟨q0, q1, q2, q3, q4, q5, q6⟩ := (QW.out.keep B1.out).cells7
        go_wp2_with fail
        refine Calls.mono (CE.out w1 B1.out) ?_
        rintro e w2 ⟨rfl, hb⟩
        have B2 : Hid (Below W.heap.size W w2) := B1.out.trans (hb.mono B1.out.size)
        clear hb q0 q1 q2 q3 q4 q5 q6
        obtain ⟨p0, p1, p2⟩ := (PW.out.keep B2.out).cells3
        obtain ⟨q0, q1, q2, q3, q4, q5, q6⟩ := (QW.out.keep B2.out).cells7
        have BD : Hid (Below W.heap.size W w2.drew) := B2.out.drew
        go_upto_region 3 with fail
        go_cut [5] from 20 to 25 (fun c wx => c = .int .i64 vd ∧ ∃ g1 e1 g2 e2, Blk wx (w.heap.size + 1 + 1) #[.int .i64 (z + 1), .slice (some ⟨g1, 0, none⟩) 4 e1, .slice (some ⟨g2, 0, none⟩) dn.length e2] 28 ∧ ApplyPost (z + 1) bn dn vd w (.returned (.tuple #[.agg #[.int .i64 (z + 1), .slice (some ⟨g1, 0, none⟩) 4 e1, .slice (some ⟨g2, 0, none⟩) dn.length e2], .int .i64 vd])) wx)
        case first =>
          go_region_with (first | (go_at_call 57; refine Calls.mono (COPY.out _ BD.out) ?_; rintro e w3 ⟨g1, e1, g2, e2, rfl, F3⟩; have B3 : Hid (Below W.heap.size W w3) := BD.out.trans (F3.out.2.2.2.mono BD.out.size); have AP : Hid _ := APPLY.out _ w3 g1 e1 g2 e2 BD.out F3.out.1 F3.out.2.2.1 F3.out.2.2.2; obtain ⟨t0, t1, t2, t3, t4, t5, t6⟩ := (QW.out.keep B3.out).cells7) | (go_at_call 41; refine Calls.mono AP.out ?_; rintro e w5 ⟨g3, e3, rfl, he3, hS5, hT5⟩; have F5 : Hid (dn.length ≤ e3 ∧ StB bn dn w2.drew.heap.size w5 (some ⟨g1, 0, none⟩) (some ⟨g3, 0, none⟩) ∧ Below w2.drew.heap.size w2.drew w5) := ⟨he3, hS5, F3.out.2.2.2.trans (hT5.below (fun x hx => (by simp only [List.mem_singleton] at hx; rw [hx]; exact (F3.out.1.far1 _ rfl).1)) F3.out.2.2.2.size)⟩; have B5 := BD.out.trans (F5.out.2.2.mono BD.out.size); obtain ⟨y0, y1, y2⟩ := (ZW.out.keep B5).cells3; have fy := (ZW.out.keep B5).frozen; clear B5 he3 hS5 hT5))
          all_goals
            go_wp2_with fail
            go_meet
            exact ⟨rfl, g1, e1, g3, e3, FIN.out w2.drew w5 g1 e1 g3 e3 BD.out F3.out.2.1 F5.out.1 F5.out.2.1 F5.out.2.2 _ rfl⟩
        case rest =>
          obtain ⟨rfl, g1, e1, g2, e2, hblk, hpost⟩ := hcut
          obtain ⟨c0, c1', c2'⟩ := hblk.cells3
          have F : Hid _ := hpost
          clear hblk hpost p0 p1 p2 q0 q1 q2 q3 q4 q5 q6
          go_wp2_with fail
          refine bodyPost_ret (v := .tuple #[.agg #[.int .i64 (z + 1), .slice (some ⟨g1, 0, none⟩) 4 e1, .slice (some ⟨g2, 0, none⟩) dn.length e2], .int .i64 vd]) (by simp [results, Tryz.results19, go_sem, c0, c1', c2']) rfl ?_
          exact F.out
end Go.Proofs.YtbecdihfopjlhaaGreatDoor.Own
