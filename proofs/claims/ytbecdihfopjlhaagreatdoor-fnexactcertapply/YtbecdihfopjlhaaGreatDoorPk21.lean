/-
  Own texts, bundled: ExecDoI, LedBox.
-/
import Derived.Test.YtbecdihfopjlhaaGreatDoorPk7
import Derived.Test.YtbecdihfopjlhaaGreatDoorPk8
import Derived.Test.YtbecdihfopjlhaaGreatDoorPk11
import Derived.Test.YtbecdihfopjlhaaGreatDoorPk20
namespace Go.Proofs.YtbecdihfopjlhaaGreatDoor.Own
open Go.RowKit
set_option linter.unusedVariables false
set_option linter.unusedSimpArgs false

theorem getD4 {xs : List P2} (h : xs.length = 4) : xs = [xs.getD 0 (0, 0), xs.getD 1 (0, 0), xs.getD 2 (0, 0), xs.getD 3 (0, 0)] := by
  match xs, h with
  | [a, b, c, d], _ => rfl

theorem arr_at {w : World} {b : Nat} {t : TypeId} {f : Nat × Nat} {xs : List P2} (h : w.heap[b]? = some (.cells (arr8 (xs.getD 0 (0, 0)).1 (xs.getD 0 (0, 0)).2 (xs.getD 1 (0, 0)).1 (xs.getD 1 (0, 0)).2 (xs.getD 2 (0, 0)).1 (xs.getD 2 (0, 0)).2 (xs.getD 3 (0, 0)).1 (xs.getD 3 (0, 0)).2) t f)) (hl : xs.length = 4) : BoxAt w b 0 xs := by
  refine ⟨(Array.getElem?_eq_some_iff.1 h).1, fun i hi => ?_⟩
  rw [cell_heap h, cell_heap h, Nat.zero_add]
  have : i < 4 := by omega
  match i, this with
  | 0, _ | 1, _ | 2, _ | 3, _ => exact ⟨rfl, rfl⟩

set_option maxRecDepth 100000 in
set_option maxHeartbeats 2000000 in
theorem implExecDo (a : Option Addr) (c : Nat) (bs : List P2) (a1 a2 : Option Addr) (c1 c2 : Nat) (xs ys : List P2) (v k : Int) (w : World) (h0 : Sl w a bs) (hc : bs.length ≤ c) (h1 : Sl w a1 xs) (h2 : Sl w a2 ys) (hn1 : xs.length ≤ 2 ^ 40) (hn2 : ys.length ≤ 2 ^ 40) :
    Calls Tryz.prog 52 #[.slice a bs.length c, .agg #[.slice a1 xs.length c1, .slice a2 ys.length c2, .int .i64 v, .int .i64 k]] w fun e w' => ∃ ad cap, e = .returned (.slice ad (execDo bs xs ys v k).length cap) ∧ (execDo bs xs ys v k).length ≤ cap ∧ OwnB w' w.heap.size ad (execDo bs xs ys v k) ∧ Below w.heap.size w w' := by
  have H0 : Hid (Sl w a bs) := h0
  have H1 : Hid (Sl w a1 xs) := h1
  have H2 : Hid (Sl w a2 ys) := h2
  clear h0 h1 h2
  have E : Hid (execDo bs xs ys v k = if boxOk bs && execOk xs ys v k then doPuts bs ys else []) := rfl
  obtain ⟨W, hW⟩ : ∃ W, W = w.alloc (.cells #[.slice a1 xs.length c1, .slice a2 ys.length c2, .int .i64 v, .int .i64 k] 37) := ⟨_, rfl⟩
  have BW : Hid (Below w.heap.size w W) := by show Below _ _ _; rw [hW]; exact below_new _ _
  have P0 : Hid (C4 W w.heap.size (.slice a1 xs.length c1) (.slice a2 ys.length c2) (.int .i64 v) (.int .i64 k)) := by show C4 _ _ _ _ _ _; rw [hW]; exact C4.new _ _ _ _ _ _
  have HW : Hid (W = _) := hW
  clear hW
  have CB := implOk a c bs W (H0.out.below BW.out) hc
  cases hb : boxOk bs with
  | false =>
    rw [hb] at CB
    have CB' : Hid _ := CB
    have E0 : Hid (execDo bs xs ys v k = []) := by show _ = _; rw [E.out, hb]; rfl
    clear CB
    go_enter Tryz.func52, Tryz.ntmps52
    go_wp2_with fail
    rw [← HW.out]
    refine Calls.mono CB'.out ?_
    rintro e w1 ⟨rfl, b1⟩
    have B1 : Hid (Below w.heap.size w w1) := BW.out.trans (b1.mono BW.out.size)
    clear b1
    go_wp2_with fail
    go_ret
    rw [E0.out]
    exact ⟨_, _, rfl, Nat.le_refl _, .inl rfl, B1.out⟩
  | true =>
    rw [hb] at CB
    have CB' : Hid _ := CB
    have HL : Hid (bs.length = 4) := boxOk_len hb
    have HBO : Hid (boxOk bs = true) := hb
    clear CB hb
    go_enter Tryz.func52, Tryz.ntmps52
    go_wp2_with fail
    rw [← HW.out]
    refine Calls.mono CB'.out ?_
    rintro e w1 ⟨rfl, b1⟩
    have B1 : Hid (Below W.heap.size W w1) := b1
    clear b1
    obtain ⟨_, q0, q1, q2, q3⟩ := P0.out.below B1.out
    have CE := implExecOk a1 a2 c1 c2 xs ys v k w1 ((H1.out.below BW.out).below B1.out) ((H2.out.below BW.out).below B1.out) hn1 hn2
    cases he : execOk xs ys v k with
    | false =>
      rw [he] at CE
      have CE' : Hid _ := CE
      have E0 : Hid (execDo bs xs ys v k = []) := by show _ = _; rw [E.out, he]; simp
      clear CE
      go_wp2_with fail
      refine Calls.mono CE'.out ?_
      rintro e w2 ⟨rfl, b2⟩
      have B2 : Hid (Below w.heap.size w w2) := BW.out.trans ((B1.out.trans (b2.mono B1.out.size)).mono BW.out.size)
      clear b2
      go_wp2_with fail
      go_ret
      rw [E0.out]
      exact ⟨_, _, rfl, Nat.le_refl _, .inl rfl, B2.out⟩
    | true =>
      rw [he] at CE
      have CE' : Hid _ := CE
      have E2 : Hid (execDo bs xs ys v k = doPuts bs ys) := by show _ = _; rw [E.out, he, HBO.out]; rfl
      have HY : Hid (okAll numOk ys = true) := execOk_puts he
      have HLn : Hid ((doPuts bs ys).length = 4) := by show _ = _; rw [doPuts_length]; exact HL.out
      clear CE he
      go_wp2_with fail
      refine Calls.mono CE'.out ?_
      rintro e w2 ⟨rfl, b2⟩
      have B2 : Hid (Below W.heap.size W w2) := B1.out.trans (b2.mono B1.out.size)
      clear b2 q0 q1 q2 q3
      go_wp2_with fail
      refine (boxesFrom a c bs 0 w2 ((H0.out.below BW.out).below B2.out) hc (Nat.zero_le _)).mono ?_
      rintro e w3 ⟨rfl, b3⟩
      have B3 : Hid (Below W.heap.size W w3) := B2.out.trans (b3.mono B2.out.size)
      clear b3
      have fd : ∀ i, fromD bs 0 i = bs.getD i (0, 0) := fun i => by simp [fromD]
      rw [fd, fd, fd, fd]
      clear fd
      obtain ⟨X, hX⟩ : ∃ X, X = w3.alloc (.cells #[.int .i64 (bs.getD 0 (0, 0)).1, .int .i64 (bs.getD 0 (0, 0)).2, .int .i64 (bs.getD 1 (0, 0)).1, .int .i64 (bs.getD 1 (0, 0)).2, .int .i64 (bs.getD 2 (0, 0)).1, .int .i64 (bs.getD 2 (0, 0)).2, .int .i64 (bs.getD 3 (0, 0)).1, .int .i64 (bs.getD 3 (0, 0)).2] 99) := ⟨_, rfl⟩
      have BX : Hid (Below W.heap.size W X) := by show Below _ _ _; rw [hX]; exact B3.out.alloc B3.out.size _
      have AX : Hid (BoxAt X w3.heap.size 0 bs) := by show BoxAt _ _ _ _; rw [hX]; exact arr_at (heap_new _ _) HL.out
      have FX : Hid (∀ o, X.frozen? ⟨w3.heap.size, o, none⟩ = false) := by show ∀ o, _; rw [hX]; exact fun o => frozen_heap (heap_new _ _) o
      have HX : Hid (X = _) := hX
      clear hX
      generalize bs.getD 0 (0, 0) = e0 at HX
      generalize bs.getD 1 (0, 0) = e1 at HX
      generalize bs.getD 2 (0, 0) = e2 at HX
      generalize bs.getD 3 (0, 0) = e3 at HX
      obtain ⟨_, _, q1, _, _⟩ := P0.out.below BX.out
      have gX : w.heap.size < w3.heap.size := Nat.lt_of_lt_of_le P0.out.1 B3.out.size
      go_upto_region 4 with fail
      rw [← HX.out]
      go_wp2_with fail
      clear q1
      have B3' : Hid (Below w.heap.size w w3) := BW.out.trans (B3.out.mono BW.out.size)
      have X3 : Hid (Below w3.heap.size w3 X) := by show Below _ _ _; rw [HX.out]; exact below_new _ _
      go_loopw [22] (fun i wr => ∃ j : Nat, j ≤ ys.length ∧ i = .int .i64 j ∧ BoxAt wr w3.heap.size 0 (doPuts bs (ys.take j)) ∧ (∀ o, wr.frozen? ⟨w3.heap.size, o, none⟩ = false) ∧ Below w3.heap.size w3 wr) (fun i _ => ys.length - (intOf i).toNat)
      case atStart => exact ⟨0, Nat.zero_le _, rfl, by simpa [doPuts] using AX.out, FX.out, X3.out⟩
      case round =>
        clear X3 AX FX HX BX
        obtain ⟨j, hj, rfl, hA, hF, hB⟩ := hrel
        have HAt : Hid (BoxAt wr w3.heap.size 0 (doPuts bs (ys.take j))) := hA
        have HFr : Hid (∀ o, wr.frozen? ⟨w3.heap.size, o, none⟩ = false) := hF
        have HB : Hid (Below w3.heap.size w3 wr) := hB
        clear hA hF
        by_cases hlt : j < ys.length
        · rcases H2.out with h | ⟨b1, o1, rfl, h1⟩
          · subst h; simp at hlt
          have H1' : Hid (BoxAt wr b1 o1 ys) := (h1.below B3'.out).below hB
          have hb1 : b1 < w3.heap.size := (h1.below B3'.out).1
          clear h1 hB
          obtain ⟨p, hp⟩ : ∃ p, p = ys.getD j (0, 0) := ⟨_, rfl⟩
          obtain ⟨ca, cb⟩ := H1'.out.2 j hlt
          rw [← hp] at ca cb
          have HP : Hid (p = ys.getD j (0, 0)) := hp
          clear hp
          obtain ⟨p1, p2⟩ := p
          obtain ⟨m, hm, hm1⟩ := okAll_box HY.out j hlt
          rw [← HP.out] at hm1
          have hm2 : p1 = (m : Int) := hm1
          clear hm1
          subst hm2
          have OKj := doPuts_ok HBO.out HY.out j hj
          have hver := boxOk_ver OKj m hm
          have hlen : (doPuts bs (ys.take j)).length = 4 := by rw [doPuts_length]; exact HL.out
          have HS : Hid (doPuts bs (ys.take (j + 1)) = (doPuts bs (ys.take j)).set m (min 1000000 (((doPuts bs (ys.take j)).getD m (0, 0)).1 + 1), p2)) := by
            show _ = _
            rw [doPuts_succ _ _ _ hlt, ← HP.out]
            rfl
          generalize doPuts bs (ys.take j) = cur at HAt HS hver hlen
          clear OKj
          obtain ⟨X, hX⟩ : ∃ X, X = wr.alloc (.cells #[.int .i64 (m : Int), .int .i64 p2] 54) := ⟨_, rfl⟩
          have hszw : w3.heap.size < wr.heap.size := HAt.out.1
          have BX : Hid (Below w3.heap.size w3 X) := by show Below _ _ _; rw [hX]; exact HB.out.alloc HB.out.size _
          have AX : Hid (BoxAt X w3.heap.size 0 cur) := by show BoxAt _ _ _ _; rw [hX]; exact HAt.out.below (below_new _ _)
          have FX : Hid (∀ o, X.frozen? ⟨w3.heap.size, o, none⟩ = false) := by show ∀ o, _; intro o; rw [hX, (below_new wr _).frozen (p := ⟨w3.heap.size, o, none⟩) hszw]; exact HFr.out o
          have y0 : X.cell? ⟨wr.heap.size, 0, none⟩ = some (.int .i64 (m : Int)) := by rw [hX, cell_heap (heap_new _ _)]; rfl
          have y1 : X.cell? ⟨wr.heap.size, 1, none⟩ = some (.int .i64 p2) := by rw [hX, cell_heap (heap_new _ _)]; rfl
          have cx := (AX.out.2 m (by rw [hlen]; exact hm)).1
          have cy := (AX.out.2 m (by rw [hlen]; exact hm)).2
          have HN : Hid (BoxAt ((X.setCell ⟨w3.heap.size, 0 + m * 2, none⟩ (.int .i64 (min 1000000 ((cur.getD m (0, 0)).1 + 1)))).setCell ⟨w3.heap.size, 0 + m * 2 + 1, none⟩ (.int .i64 p2)) w3.heap.size 0 (doPuts bs (ys.take (j + 1)))) := by
            show BoxAt _ _ _ _
            rw [HS.out]; exact AX.out.setBoth m (by rw [hlen]; exact hm) _ _
          obtain ⟨x, hx⟩ : ∃ x, x = (cur.getD m (0, 0)).1 := ⟨_, rfl⟩
          rw [← hx] at cx hver HN
          have f0 := FX.out (m * 2)
          have f1 := FX.out (m * 2 + 1)
          simp only [Nat.zero_add] at cx cy HN
          obtain ⟨y, hy⟩ : ∃ y, y = (cur.getD m (0, 0)).2 := ⟨_, rfl⟩
          rw [← hy] at cy
          have HX : Hid (X = _) := hX
          clear hx hy hlen hX HS
          obtain ⟨hv0, hv1⟩ := hver
          have hmi : (m : Int) < 4 := by omega
          obtain ⟨z, hz⟩ : ∃ z, z = min 1000000 (x + 1) := ⟨_, rfl⟩
          have hzz : Hid ((if 1000000 < x + 1 then (1000000 : Int) else x + 1) = z) := by show _ = _; rw [hz]; split <;> omega
          rw [← hz] at HN
          have hne : ¬ wr.heap.size = w3.heap.size := by omega
          have HBz : Hid (Below w3.heap.size w3 ((X.setCell ⟨w3.heap.size, m * 2, none⟩ (.int .i64 z)).setCell ⟨w3.heap.size, m * 2 + 1, none⟩ (.int .i64 p2))) := (BX.out.setCell (Nat.le_refl _) _).setCell (Nat.le_refl _) _
          have HFz : Hid (∀ o, ((X.setCell ⟨w3.heap.size, m * 2, none⟩ (.int .i64 z)).setCell ⟨w3.heap.size, m * 2 + 1, none⟩ (.int .i64 p2)).frozen? ⟨w3.heap.size, o, none⟩ = false) := fun o => by simpa using FX.out o
          go_upto_region 7 with fail
          rw [← HX.out]
          clear ca cb hz
          go_wp2
          rw [hzz.out]
          go_roundw
          case rel => exact ⟨j + 1, by omega, by go_num, HN.out, HFz.out, HBz.out⟩
          case measure => simp [intOf]; omega
        · have hjl : j = ys.length := by omega
          subst hjl
          rw [List.take_length] at HAt
          generalize doPuts bs ys = cur at HAt E2 HLn
          have a0 := HAt.out.2 0 (by rw [HLn.out]; omega)
          have a1' := HAt.out.2 1 (by rw [HLn.out]; omega)
          have a2' := HAt.out.2 2 (by rw [HLn.out]; omega)
          have a3' := HAt.out.2 3 (by rw [HLn.out]; omega)
          simp only [Nat.zero_mul, Nat.zero_add, Nat.one_mul, Nat.reduceMul, Nat.reduceAdd] at a0 a1' a2' a3'
          obtain ⟨z0, z1⟩ := a0
          obtain ⟨z2, z3⟩ := a1'
          obtain ⟨z4, z5⟩ := a2'
          obtain ⟨z6, z7⟩ := a3'
          clear hB
          go_wp2_with fail
          refine (arrList _ _ _ _ _ _ _ _ wr).mono ?_
          rintro e w5 ⟨rfl, h5, b5, s5⟩
          have B5 : Hid (Below w.heap.size w w5) := by
            have h := B3'.out.trans (HB.out.mono B3'.out.size)
            exact h.trans (b5.mono h.size)
          have A5 : Hid (BoxAt w5 (wr.heap.size + 1) 0 cur) := arr_at h5 HLn.out
          have F5 : Hid (∀ o, w5.frozen? ⟨wr.heap.size + 1, o, none⟩ = false) := fun o => frozen_heap h5 o
          have S5 : Hid (w.heap.size ≤ wr.heap.size + 1) := by
            show _ ≤ _
            have := HB.out.size
            omega
          clear h5 b5 s5
          go_wp2
          go_ret
          rw [E2.out]
          exact ⟨_, 4, by rw [HLn.out]; rfl, by rw [HLn.out]; exact Nat.le_refl _, .inr ⟨_, rfl, S5.out, A5.out, F5.out⟩, B5.out⟩
end Go.Proofs.YtbecdihfopjlhaaGreatDoor.Own

namespace Go.Proofs.YtbecdihfopjlhaaGreatDoor.Own
open Go.RowKit
set_option linter.unusedVariables false
set_option linter.unusedSimpArgs false

/-- The ledger's ten cells. -/
def ledC (z : Int) (bs : List P2) (bm : Nat) : Array Value := #[.int .i64 z, .int .i64 (bs.getD 0 (0, 0)).1, .int .i64 (bs.getD 0 (0, 0)).2, .int .i64 (bs.getD 1 (0, 0)).1, .int .i64 (bs.getD 1 (0, 0)).2, .int .i64 (bs.getD 2 (0, 0)).1, .int .i64 (bs.getD 2 (0, 0)).2, .int .i64 (bs.getD 3 (0, 0)).1, .int .i64 (bs.getD 3 (0, 0)).2, .map (some bm)]
/-- The ledger in block b: how many entries, the boxes, the last requests (in block bm). -/
structure Led (w : World) (b bm N : Nat) (z : Int) (bs : List P2) (m : Nat → Option T3) : Prop where
  blk : Blk w b (ledC z bs bm) 136
  lasts : MapM w bm N m
  ne : bm ≠ b
  bok : boxOk bs = true
  ok : okM m
theorem Led.keep {w w' : World} {b bm N : Nat} {z : Int} {bs : List P2} {m : Nat → Option T3} (h : Led w b bm N z bs m) (hb : Below w.heap.size w w') : Led w' b bm N z bs m :=
  ⟨h.blk.keep hb, h.lasts.block (hb.block bm h.lasts.lt), h.ne, h.bok, h.ok⟩
theorem Led.four {w : World} {b bm N : Nat} {z : Int} {bs : List P2} {m : Nat → Option T3} (h : Led w b bm N z bs m) : bs.length = 4 := boxOk_len h.bok
theorem Led.box {w : World} {b bm N : Nat} {z : Int} {bs : List P2} {m : Nat → Option T3} (h : Led w b bm N z bs m) : BoxAt w b 1 bs := by
  refine ⟨h.blk.lt, fun i hi => ?_⟩
  have h4 := h.four
  rw [h.blk.cell, h.blk.cell]
  rcases (by omega : i = 0 ∨ i = 1 ∨ i = 2 ∨ i = 3) with rfl | rfl | rfl | rfl <;> exact ⟨rfl, rfl⟩
theorem Led.map {w : World} {b bm N : Nat} {z : Int} {bs : List P2} {m : Nat → Option T3} (h : Led w b bm N z bs m) : w.cell? ⟨b, 9, none⟩ = some (.map (some bm)) := by rw [h.blk.cell]; rfl
theorem Led.at0 {w : World} {b bm N : Nat} {z : Int} {bs : List P2} {m : Nat → Option T3} (h : Led w b bm N z bs m) : w.cell? ⟨b, 0, none⟩ = some (.int .i64 z) := by rw [h.blk.cell]; rfl

set_option maxRecDepth 100000 in
set_option maxHeartbeats 2000000 in
theorem ledJudge (b bm M N : Nat) (z : Int) (bs : List P2) (m : Nat → Option T3) (E : Nat → Addr) (a1 a2 : Option Addr) (c1 c2 : Nat) (xs ys : List P2) (v k : Int) (w : World) (hl : Led w b bm M z bs m) (hE : Errs N w E) (h1 : Sl w a1 xs) (h2 : Sl w a2 ys) (hn1 : xs.length ≤ 2 ^ 40) (hn2 : ys.length ≤ 2 ^ 40) :
    Calls Tryz.prog 182 #[.pointer (some ⟨b, 0, none⟩), .agg #[.slice a1 xs.length c1, .slice a2 ys.length c2, .int .i64 v, .int .i64 k]] w fun e w' => e = .returned (verV E (judgeR bs xs ys v k).toNat) ∧ Below w.heap.size w w' := by
  obtain ⟨W, hW⟩ : ∃ W, W = w.alloc (.cells #[.slice a1 xs.length c1, .slice a2 ys.length c2, .int .i64 v, .int .i64 k] 37) := ⟨_, rfl⟩
  have bW : Below w.heap.size w W := by rw [hW]; exact (Below.refl _ _).alloc (Nat.le_refl _) _
  have BW : Hid (Below w.heap.size w W) := bW
  have QW : Hid (Blk W w.heap.size #[.slice a1 xs.length c1, .slice a2 ys.length c2, .int .i64 v, .int .i64 k] 37) := by show Blk _ _ _ _; rw [hW]; exact Blk.new _ _ _
  have LW := hl.keep bW
  have h4 : bs.length = 4 := hl.four
  have FR : Hid (∀ V, Below W.heap.size W V → Calls Tryz.prog 183 #[.slice (some ⟨b, 1, none⟩) 4 4, .agg #[.slice a1 xs.length c1, .slice a2 ys.length c2, .int .i64 v, .int .i64 k]] V fun e w' => e = .returned (.bool (execFresh bs xs ys v k)) ∧ Below V.heap.size V w') := fun V hV => by
    have := implExecFresh (some ⟨b, 1, none⟩) 4 bs a1 a2 c1 c2 xs ys v k V (.inr ⟨b, 1, rfl, LW.box.below hV⟩) (by omega) ((h1.below bW).below hV) ((h2.below bW).below hV) hn1 hn2
    rw [h4] at this
    exact this
  have HB : Hid (b < W.heap.size) := LW.blk.lt
  have EW : Hid (∀ V, Below W.heap.size W V → Errs N V E) := fun V hV => (hE.keep bW).keep hV
  have HW : Hid (W = _) := hW
  obtain ⟨q0, q1, q2, q3⟩ := QW.out.cells4
  have qd := q3
  have BD : Hid (Below W.heap.size W W.drew) := (Below.refl _ _).drew
  have J : Hid (judgeR bs xs ys v k = if execFresh bs xs ys v k then (if k = 0 then 0 else 2) else 1) := rfl
  generalize judgeR bs xs ys v k = R at J ⊢
  generalize execFresh bs xs ys v k = F at J FR
  clear hl hE h1 h2 hW bW LW h4
  go_enter Tryz.func182, Tryz.ntmps182
  go_upto_region 1 with fail
  rw [← HW.out]
  cases F with
  | false =>
    have JR : Hid (R = 1) := J.out
    clear J
    go_cut [11] from 5 to 11 (fun p wx => p = .bool true ∧ Below W.heap.size W wx)
    case first =>
      go_region_with (go_at_call 183; refine Calls.mono (FR.out _ BD.out) ?_; rintro e w1 ⟨rfl, hb⟩; have B1 : Hid (Below W.heap.size W w1) := Below.trans BD.out hb; clear hb)
      all_goals
        go_wp2_with fail
        go_meet
        exact ⟨rfl, B1.out⟩
    case rest =>
      obtain ⟨rfl, hb⟩ := hcut
      have B1 : Hid (Below W.heap.size W wc) := hb
      have g1 := (EW.out wc hb).g1
      clear hb
      go_wp2_with fail
      go_ret
      rw [JR.out]
      exact ⟨rfl, BW.out.trans (B1.out.mono BW.out.size)⟩
  | true =>
    go_cut [11] from 5 to 11 (fun p wx => p = .bool false ∧ Below W.heap.size W wx)
    case first =>
      go_region_with (go_at_call 183; refine Calls.mono (FR.out _ BD.out) ?_; rintro e w1 ⟨rfl, hb⟩; have B1 : Hid (Below W.heap.size W w1) := Below.trans BD.out hb; clear hb)
      all_goals
        go_wp2_with fail
        go_meet
        exact ⟨rfl, B1.out⟩
    case rest =>
      obtain ⟨rfl, hb⟩ := hcut
      have B1 : Hid (Below W.heap.size W wc) := hb
      have g2 := (EW.out wc hb).g2
      obtain ⟨r0, r1, r2, r3⟩ := (QW.out.keep hb).cells4
      clear hb
      by_cases hk : k = 0
      · have JR : Hid (R = 0) := by show _ = _; rw [J.out, if_pos rfl, if_pos hk]
        have hk' : (k != 0) = false := by simp [hk]
        clear hk J
        go_wp2_with fail
        go_ret
        rw [JR.out]
        exact ⟨rfl, BW.out.trans (B1.out.mono BW.out.size)⟩
      · have JR : Hid (R = 2) := by show _ = _; rw [J.out, if_pos rfl, if_neg hk]
        have hk' : (k != 0) = true := by simp [hk]
        clear hk J
        go_wp2_with fail
        go_ret
        rw [JR.out]
        exact ⟨rfl, BW.out.trans (B1.out.mono BW.out.size)⟩
end Go.Proofs.YtbecdihfopjlhaaGreatDoor.Own
