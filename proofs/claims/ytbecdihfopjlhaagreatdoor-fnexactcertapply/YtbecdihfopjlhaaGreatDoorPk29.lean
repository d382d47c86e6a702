/-
  Own texts, bundled: LedTake.
-/
import Derived.Test.YtbecdihfopjlhaaGreatDoorPk22
import Derived.Test.YtbecdihfopjlhaaGreatDoorPk6
namespace Go.Proofs.YtbecdihfopjlhaaGreatDoor.Own
open Go.RowKit
set_option linter.unusedVariables false
set_option linter.unusedSimpArgs false

set_option maxRecDepth 100000 in
set_option maxHeartbeats 1000000 in
theorem emptyEnter (N : Nat) (E : Nat → Addr) (x0 x1 x2 x3 x4 x5 x6 p : Value) (w : World) (hE : Errs N w E) :
    Calls Tryz.prog 173 #[.agg #[x0, x1, x2, x3, x4, x5, x6], p] w fun e w' => e = .returned (.iface 219 (.pointer (some (E 5)))) ∧ Below w.heap.size w w' := by
  obtain ⟨W, hW⟩ : ∃ W, W = w.alloc (.cells #[x0, x1, x2, x3, x4, x5, x6] 191) := ⟨_, rfl⟩
  have bW : Below w.heap.size w W := by rw [hW]; exact (Below.refl _ _).alloc (Nat.le_refl _) _
  have g5 := (hE.keep bW).g5
  have HW : Hid (W = _) := hW
  have BW : Hid (Below w.heap.size w W) := bW
  clear hW bW hE
  go_enter Tryz.func173, Tryz.ntmps173
  go_upto_region 1 with fail
  rw [← HW.out]
  go_wp2_with fail
  go_ret
  exact ⟨rfl, BW.out⟩

theorem Led.count {w : World} {b bm M : Nat} {z : Int} {bs : List P2} {m : Nat → Option T3} (h : Led w b bm M z bs m) (z' : Int) : Led (w.setCell ⟨b, 0, none⟩ (.int .i64 z')) b bm M z' bs m :=
  ⟨(h.blk.set 0 _).eq (by simp [ledC]), h.lasts.block (Below.heap_setCell _ _ _ _ h.ne), h.ne, h.bok, h.ok⟩

set_option maxRecDepth 100000 in
set_option maxHeartbeats 2000000 in
theorem ledTakeBad (b bm M N : Nat) (z : Int) (bs : List P2) (m : Nat → Option T3) (E : Nat → Addr) (n : Bool) (p q : Int) (a1 a2 : Option Addr) (c1 c2 : Nat) (xs ys : List P2) (v k : Int) (w : World)
    (hl : Led w b bm M z bs m) (hE : Errs N w E) (h1 : Sl w a1 xs) (h2 : Sl w a2 ys) (n1 : xs.length ≤ 2 ^ 40) (n2 : ys.length ≤ 2 ^ 40) (hbad : z = 40 ∨ entOk n p q xs ys v k = false) :
    Calls Tryz.prog 36 #[.pointer (some ⟨b, 0, none⟩), .agg #[.bool n, .int .i64 p, .int .i64 q, .slice a1 xs.length c1, .slice a2 ys.length c2, .int .i64 v, .int .i64 k]] w fun e w' => e = .returned (.iface 219 (.pointer (some (E 0)))) ∧ Below w.heap.size w w' := by
  obtain ⟨W, hW⟩ : ∃ W, W = w.alloc (.cells #[.bool n, .int .i64 p, .int .i64 q, .slice a1 xs.length c1, .slice a2 ys.length c2, .int .i64 v, .int .i64 k] 48) := ⟨_, rfl⟩
  have bW : Below w.heap.size w W := by rw [hW]; exact (Below.refl _ _).alloc (Nat.le_refl _) _
  have BW : Hid (Below w.heap.size w W) := bW
  have QW : Hid (Blk W w.heap.size #[.bool n, .int .i64 p, .int .i64 q, .slice a1 xs.length c1, .slice a2 ys.length c2, .int .i64 v, .int .i64 k] 48) := by show Blk _ _ _ _; rw [hW]; exact Blk.new _ _ _
  have LW : Hid (Led W b bm M z bs m) := hl.keep bW
  have EW : Hid (Errs N W E) := hE.keep bW
  have S1 : Hid (Sl W a1 xs) := h1.below bW
  have S2 : Hid (Sl W a2 ys) := h2.below bW
  have HW : Hid (W = _) := hW
  have G0 : Hid (∀ V, Below W.heap.size W V → V.cell? ⟨0, 0, none⟩ = some (.iface 219 (.pointer (some (E 0)))) ∧ V.cell? ⟨b, 0, none⟩ = some (.int .i64 z)) := fun V hV => ⟨(EW.out.keep hV).g0, (LW.out.keep hV).at0⟩
  obtain ⟨q0, q1, q2, q3, q4, q5, q6⟩ := QW.out.cells7
  clear hl hE h1 h2 hW bW
  by_cases hz : z = 40
  · have ez : (z == 40) = true := by simp [hz]
    clear hbad hz
    go_enter Tryz.func36, Tryz.ntmps36
    go_wp2_with fail
    rw [← HW.out]
    refine Calls.mono (implEntryOf n (.int .i64 p) (.int .i64 q) (.slice a1 xs.length c1) (.slice a2 ys.length c2) (.int .i64 v) (.int .i64 k) W) ?_
    rintro e w1 ⟨rfl, hb⟩
    have B1 : Hid (Below W.heap.size W w1) := hb
    obtain ⟨g0, g1⟩ := G0.out w1 hb
    clear hb
    generalize (if n = true then (191 : Nat) else 192) = ty
    go_wp2_with fail
    go_ret
    exact ⟨rfl, BW.out.trans (B1.out.mono BW.out.size)⟩
  · have ez : (z == 40) = false := by simp [hz]
    have hbad' : entOk n p q xs ys v k = false := by rcases hbad with h | h
                                                     · exact absurd h hz
                                                     · exact h
    clear hbad
    cases n with
    | true =>
      have hb' : likeE true true (p, q) (0, 0) xs ys [] [] v k 0 0 = false := hbad'
      have R : Hid (∀ V, Below W.heap.size W V → Calls Tryz.prog 174 #[.agg #[.bool true, .int .i64 p, .int .i64 q, .slice a1 xs.length c1, .slice a2 ys.length c2, .int .i64 v, .int .i64 k]] V fun e w' => e = .returned (.bool false) ∧ Below V.heap.size V w') := fun V hV =>
        by have h := implEmptyRight true p q a1 a2 c1 c2 xs ys v k V (S1.out.below hV) (S2.out.below hV) n1 n2; rw [hb'] at h; exact h
      clear hbad' hb'
      go_enter Tryz.func36, Tryz.ntmps36
      go_wp2_with fail
      rw [← HW.out]
      refine Calls.mono (implEntryOf true (.int .i64 p) (.int .i64 q) (.slice a1 xs.length c1) (.slice a2 ys.length c2) (.int .i64 v) (.int .i64 k) W) ?_
      rintro e w1 ⟨rfl, hb⟩
      have B1 : Hid (Below W.heap.size W w1) := hb
      obtain ⟨g0, g1⟩ := G0.out w1 hb
      clear hb
      simp only [if_true]
      go_wp2_with fail
      refine Calls.mono (R.out w1 B1.out) ?_
      rintro e w2 ⟨rfl, hb⟩
      have B2 : Hid (Below W.heap.size W w2) := B1.out.trans (hb.mono B1.out.size)
      clear g0 g1
      obtain ⟨g0, g1⟩ := G0.out w2 B2.out
      clear hb
      go_wp2_with fail
      go_ret
      exact ⟨rfl, BW.out.trans (B2.out.mono BW.out.size)⟩
    | false =>
      have hb' : (reqOk p q && execOk xs ys v k && k != 3) = false := hbad'
      have R : Hid (∀ V, Below W.heap.size W V → Calls Tryz.prog 180 #[.agg #[.bool false, .int .i64 p, .int .i64 q, .slice a1 xs.length c1, .slice a2 ys.length c2, .int .i64 v, .int .i64 k]] V fun e w' => e = .returned (.bool false) ∧ Below V.heap.size V w') := fun V hV =>
        by have h := implRunRight false p q a1 a2 c1 c2 xs ys v k V (S1.out.below hV) (S2.out.below hV) n1 n2; rw [hb'] at h; exact h
      clear hbad' hb'
      go_enter Tryz.func36, Tryz.ntmps36
      go_wp2_with fail
      rw [← HW.out]
      refine Calls.mono (implEntryOf false (.int .i64 p) (.int .i64 q) (.slice a1 xs.length c1) (.slice a2 ys.length c2) (.int .i64 v) (.int .i64 k) W) ?_
      rintro e w1 ⟨rfl, hb⟩
      have B1 : Hid (Below W.heap.size W w1) := hb
      obtain ⟨g0, g1⟩ := G0.out w1 hb
      clear hb
      simp only [Bool.false_eq_true, if_false]
      go_wp2_with fail
      refine Calls.mono (R.out w1 B1.out) ?_
      rintro e w2 ⟨rfl, hb⟩
      have B2 : Hid (Below W.heap.size W w2) := B1.out.trans (hb.mono B1.out.size)
      clear g0 g1
      obtain ⟨g0, g1⟩ := G0.out w2 B2.out
      clear hb
      go_wp2_with fail
      go_ret
      exact ⟨rfl, BW.out.trans (B2.out.mono BW.out.size)⟩

theorem slTurned {w w' : World} {a : Option Addr} {xs : List P2} {b : Nat} (h : Sl w a xs) (ht : Turned [b] w w') (hb : xs = [] ∨ ∀ x, a = some x → x.block ≠ b) : Sl w' a xs := by
  rcases hb with e | hb
  · exact .inl e
  · exact h.turned ht (fun x e => by simp; exact hb x e)

theorem reqOk_iff {p q : Int} : reqOk p q = true ↔ ((0 ≤ p ∧ p < 3) ∧ 1 ≤ q) ∧ q ≤ 1000 := by simp [reqOk]

set_option maxRecDepth 100000 in
set_option maxHeartbeats 2000000 in
theorem ledTake (b bm M N : Nat) (z : Int) (bs : List P2) (m : Nat → Option T3) (E : Nat → Addr) (n : Bool) (p q : Int) (a1 a2 : Option Addr) (c1 c2 : Nat) (xs ys : List P2) (v k : Int) (w : World)
    (hl : Led w b bm M z bs m) (hM : M ≤ 900) (hE : Errs N w E) (hNb : N ≤ b) (h1 : Sl w a1 xs) (h2 : Sl w a2 ys) (h1b : xs = [] ∨ ∀ x, a1 = some x → x.block ≠ b) (h2b : ys = [] ∨ ∀ x, a2 = some x → x.block ≠ b) (n1 : xs.length ≤ 2 ^ 40) (n2 : ys.length ≤ 2 ^ 40) (hz0 : 0 ≤ z) (hz1 : z < 40) (hok : entOk n p q xs ys v k = true) :
    Calls Tryz.prog 36 #[.pointer (some ⟨b, 0, none⟩), .agg #[.bool n, .int .i64 p, .int .i64 q, .slice a1 xs.length c1, .slice a2 ys.length c2, .int .i64 v, .int .i64 k]] w fun e w' => EnterPost b bm M (z + 1) bs m (verdict bs m n p q xs ys v k) p q ys v E w e w' := by
  obtain ⟨W, hW⟩ : ∃ W, W = w.alloc (.cells #[.bool n, .int .i64 p, .int .i64 q, .slice a1 xs.length c1, .slice a2 ys.length c2, .int .i64 v, .int .i64 k] 48) := ⟨_, rfl⟩
  have bW : Below w.heap.size w W := by rw [hW]; exact (Below.refl _ _).alloc (Nat.le_refl _) _
  have BW : Hid (Below w.heap.size w W) := bW
  have QW : Hid (Blk W w.heap.size #[.bool n, .int .i64 p, .int .i64 q, .slice a1 xs.length c1, .slice a2 ys.length c2, .int .i64 v, .int .i64 k] 48) := by show Blk _ _ _ _; rw [hW]; exact Blk.new _ _ _
  have LW : Hid (Led W b bm M z bs m) := hl.keep bW
  have EW : Hid (Errs N W E) := hE.keep bW
  have S1 : Hid (Sl W a1 xs) := h1.below bW
  have S2 : Hid (Sl W a2 ys) := h2.below bW
  have F1 : Hid (xs = [] ∨ ∀ x, a1 = some x → x.block ≠ b) := h1b
  have F2 : Hid (ys = [] ∨ ∀ x, a2 = some x → x.block ≠ b) := h2b
  have HN : Hid (N ≤ b ∧ M ≤ 900) := ⟨hNb, hM⟩
  have HW : Hid (W = _) := hW
  have G0 : Hid (∀ V, Below W.heap.size W V → V.cell? ⟨b, 0, none⟩ = some (.int .i64 z) ∧ V.frozen? ⟨b, 0, none⟩ = false) := fun V hV => ⟨(LW.out.keep hV).at0, (LW.out.keep hV).blk.frozen 0⟩
  have ez : (z == 40) = false := by simp; omega
  -- the ledger one further, whatever new blocks have come since
  have NX : Hid (∀ V, Below W.heap.size W V → ∀ X, X = V.setCell ⟨b, 0, none⟩ (.int .i64 (z + 1)) → Led X b bm M (z + 1) bs m ∧ Errs N X E ∧ Sl X a1 xs ∧ Sl X a2 ys ∧ Turned [b] w X) := fun V hV X hX => by
    have ho : Only b V X := by rw [hX]; exact (Only.refl _ _).setCell _
    have tv : Turned [b] V X := Turned.ofOnly ho (by simp)
    refine ⟨by rw [hX]; exact (LW.out.keep hV).count (z + 1), (EW.out.keep hV).below ?_, slTurned (S1.out.below hV) tv F1.out, slTurned (S2.out.below hV) tv F2.out, (Turned.ofBelow (BW.out.trans (hV.mono BW.out.size))).trans tv⟩
    exact ho.below HN.out.1
  obtain ⟨q0, q1, q2, q3, q4, q5, q6⟩ := QW.out.cells7
  clear hl hE h1 h2 hW bW h1b h2b hNb hM
  cases n with
  | true =>
    have hb' : likeE true true (p, q) (0, 0) xs ys [] [] v k 0 0 = true := hok
    have R : Hid (∀ V, Below W.heap.size W V → Calls Tryz.prog 174 #[.agg #[.bool true, .int .i64 p, .int .i64 q, .slice a1 xs.length c1, .slice a2 ys.length c2, .int .i64 v, .int .i64 k]] V fun e w' => e = .returned (.bool true) ∧ Below V.heap.size V w') := fun V hV =>
      by have h := implEmptyRight true p q a1 a2 c1 c2 xs ys v k V (S1.out.below hV) (S2.out.below hV) n1 n2; rw [hb'] at h; exact h
    have VD : Hid (verdict bs m true p q xs ys v k = 5) := rfl
    rw [VD.out]
    clear hok hb' VD
    go_enter Tryz.func36, Tryz.ntmps36
    go_wp2_with fail
    rw [← HW.out]
    refine Calls.mono (implEntryOf true (.int .i64 p) (.int .i64 q) (.slice a1 xs.length c1) (.slice a2 ys.length c2) (.int .i64 v) (.int .i64 k) W) ?_
    rintro e w1 ⟨rfl, hb⟩
    have B1 : Hid (Below W.heap.size W w1) := hb
    obtain ⟨g0, g1⟩ := G0.out w1 hb
    clear hb
    simp only [if_true]
    go_wp2_with fail
    refine Calls.mono (R.out w1 B1.out) ?_
    rintro e w2 ⟨rfl, hb⟩
    have B2 : Hid (Below W.heap.size W w2) := B1.out.trans (hb.mono B1.out.size)
    clear g0 g1
    obtain ⟨g0, g1⟩ := G0.out w2 B2.out
    clear hb
    obtain ⟨X, hX⟩ : ∃ X, X = w2.setCell ⟨b, 0, none⟩ (.int .i64 (z + 1)) := ⟨_, rfl⟩
    obtain ⟨lx, ex, _, _, tx⟩ := NX.out w2 B2.out X hX
    have LX : Hid (Led X b bm M (z + 1) bs m) := lx
    have TX : Hid (Turned [b] w X) := tx
    have EN : Hid (∀ y, Calls Tryz.prog 173 #[.agg #[.bool true, .int .i64 p, .int .i64 q, .slice a1 xs.length c1, .slice a2 ys.length c2, .int .i64 v, .int .i64 k], y] X fun e w' => e = .returned (.iface 219 (.pointer (some (E 5)))) ∧ Below X.heap.size X w') := fun y => emptyEnter N E _ _ _ _ _ _ _ y X ex
    have HX : Hid (X = _) := hX
    clear hX lx ex tx
    go_upto_region 5 with fail
    rw [← HX.out]
    go_wp2_with fail
    refine Calls.mono (EN.out _) ?_
    rintro e w3 ⟨rfl, hb⟩
    have F : Hid (EnterPost b bm M (z + 1) bs m 5 p q ys v E w (.returned (.iface 219 (.pointer (some (E 5))))) w3) := ⟨rfl, (LX.out.keep hb).mono (by omega), (TX.out.mono (by simp)).trans (Turned.ofBelow hb)⟩
    clear hb
    go_wp2_with fail
    go_ret
    exact F.out
  | false =>
    have hb' : (reqOk p q && execOk xs ys v k && k != 3) = true := hok
    have R : Hid (∀ V, Below W.heap.size W V → Calls Tryz.prog 180 #[.agg #[.bool false, .int .i64 p, .int .i64 q, .slice a1 xs.length c1, .slice a2 ys.length c2, .int .i64 v, .int .i64 k]] V fun e w' => e = .returned (.bool true) ∧ Below V.heap.size V w') := fun V hV =>
      by have h := implRunRight false p q a1 a2 c1 c2 xs ys v k V (S1.out.below hV) (S2.out.below hV) n1 n2; rw [hb'] at h; exact h
    simp only [Bool.and_eq_true] at hb'
    obtain ⟨⟨hr, he⟩, hk3⟩ := hb'
    obtain ⟨⟨⟨p0, p1⟩, r0⟩, r1⟩ := reqOk_iff.1 hr
    obtain ⟨j, rfl⟩ := Int.eq_ofNat_of_zero_le p0
    have hj : j < 3 := by omega
    have EN : Hid (∀ X, Led X b bm M (z + 1) bs m → Errs N X E → Sl X a1 xs → Sl X a2 ys → Calls Tryz.prog 179 #[.agg #[.bool false, .int .i64 (j : Int), .int .i64 q, .slice a1 xs.length c1, .slice a2 ys.length c2, .int .i64 v, .int .i64 k], .pointer (some ⟨b, 0, none⟩)] X fun e w' => EnterPost b bm M (z + 1) bs m (verdict bs m false (j : Int) q xs ys v k) (j : Int) q ys v E X e w') := fun X lx ex s1 s2 =>
      ledEnter b bm M N (z + 1) bs m E false j q a1 a2 c1 c2 xs ys v k X lx HN.out.2 ex hj r0 r1 he s1 s2 n1 n2
    generalize verdict bs m false (j : Int) q xs ys v k = vd at *
    clear hok hr he hk3 p0 p1 r0 r1
    go_enter Tryz.func36, Tryz.ntmps36
    go_wp2_with fail
    rw [← HW.out]
    refine Calls.mono (implEntryOf false (.int .i64 (j : Int)) (.int .i64 q) (.slice a1 xs.length c1) (.slice a2 ys.length c2) (.int .i64 v) (.int .i64 k) W) ?_
    rintro e w1 ⟨rfl, hb⟩
    have B1 : Hid (Below W.heap.size W w1) := hb
    obtain ⟨g0, g1⟩ := G0.out w1 hb
    clear hb
    simp only [Bool.false_eq_true, if_false]
    go_wp2_with fail
    refine Calls.mono (R.out w1 B1.out) ?_
    rintro e w2 ⟨rfl, hb⟩
    have B2 : Hid (Below W.heap.size W w2) := B1.out.trans (hb.mono B1.out.size)
    clear g0 g1
    obtain ⟨g0, g1⟩ := G0.out w2 B2.out
    clear hb
    obtain ⟨X, hX⟩ : ∃ X, X = w2.setCell ⟨b, 0, none⟩ (.int .i64 (z + 1)) := ⟨_, rfl⟩
    obtain ⟨lx, ex, sx1, sx2, tx⟩ := NX.out w2 B2.out X hX
    have TX : Hid (Turned [b] w X) := tx
    have ENX := EN.out X lx ex sx1 sx2
    have HX : Hid (X = _) := hX
    have ENH : Hid _ := ENX
    clear hX lx ex tx sx1 sx2 ENX EN
    go_upto_region 5 with fail
    rw [← HX.out]
    go_wp2_with fail
    refine Calls.mono ENH.out ?_
    rintro e w3 ⟨rfl, lp, tp⟩
    have F : Hid (EnterPost b bm M (z + 1) bs m vd (j : Int) q ys v E w (.returned (verV E vd.toNat)) w3) := ⟨rfl, lp, (TX.out.mono (by simp)).trans tp⟩
    clear lp tp
    go_wp2_with fail
    go_ret
    exact F.out
end Go.Proofs.YtbecdihfopjlhaaGreatDoor.Own
