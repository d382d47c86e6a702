/-
  Own texts, bundled: LedOf.
-/
import Derived.Test.YtbecdihfopjlhaaGreatDoorPk29
import Derived.Test.YtbecdihfopjlhaaGreatDoorPk8
namespace Go.Proofs.YtbecdihfopjlhaaGreatDoor.Own
open Go.RowKit
set_option linter.unusedVariables false
set_option linter.unusedSimpArgs false

set_option maxRecDepth 100000 in
set_option maxHeartbeats 4000000 in
theorem ledgerOf (z : Int) (a1 a2 : Option Addr) (c1 c2 : Nat) (bs : List P2) (ds : List Q4) (w : World) (h1 : Sl w a1 bs) (h2 : Sl4 w a2 ds) (hc1 : bs.length ≤ c1) (hb : boxOk bs = true) (hd : donesOkD ds = true) :
    Calls Tryz.prog 33 #[.agg #[.int .i64 z, .slice a1 bs.length c1, .slice a2 ds.length c2]] w fun e w' => ∃ g bm, e = .returned (.pointer (some ⟨g, 0, none⟩)) ∧ Led w' g bm 3 z bs (mOf ds) ∧ w.heap.size ≤ g ∧ w.heap.size ≤ bm ∧ Below w.heap.size w w' := by
  obtain ⟨W, hW⟩ : ∃ W, W = w.alloc (.cells #[.int .i64 z, .slice a1 bs.length c1, .slice a2 ds.length c2] 28) := ⟨_, rfl⟩
  have bW : Below w.heap.size w W := by rw [hW]; exact (Below.refl _ _).alloc (Nat.le_refl _) _
  have BW : Hid (Below w.heap.size w W) := bW
  have QW : Hid (Blk W w.heap.size #[.int .i64 z, .slice a1 bs.length c1, .slice a2 ds.length c2] 28) := by show Blk _ _ _ _; rw [hW]; exact Blk.new _ _ _
  have S2 : Hid (Sl4 W a2 ds) := h2.below bW
  have h4 : bs.length = 4 := boxOk_len hb
  have HB : Hid (boxOk bs = true) := hb
  have HD : Hid (donesOkD ds = true) := hd
  have LD : ds.length ≤ 3 := by
    obtain ⟨m, _, e, _⟩ := dones_listM hd
    rw [e]; exact listM_len m
  have FROM : Hid (∀ V, Below W.heap.size W V → Calls Tryz.prog 45 #[.slice a1 bs.length c1, .int .i64 0] V fun e w' => e = .returned (.agg #[.int .i64 (bs.getD 0 (0, 0)).1, .int .i64 (bs.getD 0 (0, 0)).2, .int .i64 (bs.getD 1 (0, 0)).1, .int .i64 (bs.getD 1 (0, 0)).2, .int .i64 (bs.getD 2 (0, 0)).1, .int .i64 (bs.getD 2 (0, 0)).2, .int .i64 (bs.getD 3 (0, 0)).1, .int .i64 (bs.getD 3 (0, 0)).2]) ∧ Below V.heap.size V w') := fun V hV =>
    boxesFrom a1 c1 bs 0 V ((h1.below bW).below hV) hc1 (Nat.zero_le _)
  have HW : Hid (W = _) := hW
  have BD : Hid (Below W.heap.size W W.drew) := (Below.refl _ _).drew
  have BM : Hid (Below W.heap.size W (W.alloc (.map #[] 0)).drew) := ((Below.refl _ _).alloc (Nat.le_refl _) _).drew
  have BA : Hid (Below (W.alloc (.map #[] 0)).heap.size (W.alloc (.map #[] 0)) (W.alloc (.map #[] 0)).drew) := (Below.refl _ _).drew
  -- the ledger as it is made, whichever comes first
  have MK1 : Hid (∀ V, Below (W.alloc (.map #[] 0)).heap.size (W.alloc (.map #[] 0)) V → ∀ X, X = V.alloc (.cells (ledC z bs W.heap.size) 136) → Led X V.heap.size W.heap.size 0 z bs (fun _ => none) ∧ W.heap.size ≤ V.heap.size ∧ Below W.heap.size W X) := fun V hV X hX => by
    have s := hV.size
    rw [size_new] at s
    have m1 : MapM V W.heap.size 0 (fun _ => none) := (MapM.made W).block (hV.block _ (by rw [size_new]; omega))
    subst hX
    exact ⟨⟨Blk.new _ _ _, m1.block (heap_old _ _ _ m1.lt), by omega, HB.out, okM_none⟩, by omega, (((Below.refl _ _).alloc (Nat.le_refl _) _).trans (hV.mono (by rw [size_new]; omega))).alloc (by omega) _⟩
  have MK2 : Hid (∀ V, Below W.heap.size W V → ∀ X, X = (V.alloc (.map #[] 0)).alloc (.cells (ledC z bs V.heap.size) 136) → Led X (V.heap.size + 1) V.heap.size 0 z bs (fun _ => none) ∧ W.heap.size ≤ V.heap.size + 1 ∧ Below W.heap.size W X) := fun V hV X hX => by
    have s := hV.size
    subst hX
    have m1 := MapM.made V
    exact ⟨⟨Blk.new2 _ _ _ _, m1.block (heap_old _ _ _ m1.lt), by omega, HB.out, okM_none⟩, by omega, (hV.alloc s _).alloc (by rw [size_new]; omega) _⟩
  obtain ⟨q0, q1, q2⟩ := QW.out.cells3
  obtain ⟨qa0, qa1, qa2⟩ := (QW.out.alloc (.map #[] 0)).cells3
  clear h1 h2 hb hd hW bW h4
  have hmm := @run_makeMap Tryz.prog
  go_enter Tryz.func33, Tryz.ntmps33
  go_upto_region 1 with fail
  rw [← HW.out]
  go_cut [3] from 6 to 13 (fun p wx => ∃ g bm, p = .pointer (some ⟨g, 0, none⟩) ∧ Led wx g bm 0 z bs (fun _ => none) ∧ W.heap.size ≤ g ∧ W.heap.size ≤ bm ∧ Below W.heap.size W wx)
  case first =>
    go_region_with (go_at_call 45; refine Calls.mono (FROM.out _ (by first | exact BD.out | exact BM.out)) ?_; rintro e w1 ⟨rfl, hb1⟩; have KW : Hid (Below W.heap.size W w1) := (by first | exact BD.out.trans (hb1.mono BD.out.size) | exact BM.out.trans (hb1.mono BM.out.size)); have B1 : Hid (Below _ _ w1) := hb1; obtain ⟨r0, r1, r2⟩ := (QW.out.keep KW.out).cells3; obtain ⟨ra0, ra1, ra2⟩ := ((QW.out.keep KW.out).alloc (.map #[] 0)).cells3; clear hb1)
    all_goals
      go_wp2_with fail
      go_meet
      first
        | (have l := MK1.out w1 (BA.out.trans B1.out) _ rfl; exact ⟨w1.heap.size, W.heap.size, rfl, l.1, l.2.1, Nat.le_refl _, l.2.2⟩)
        | (have l := MK2.out w1 KW.out _ rfl; exact ⟨w1.heap.size + 1, w1.heap.size, rfl, l.1, l.2.1, KW.out.size, l.2.2⟩)
  case rest =>
    obtain ⟨g, bm, rfl, hl, hg, hbm, hbw⟩ := hcut
    have L0 : Hid (Led wc g bm 0 z bs (fun _ => none)) := hl
    have BC : Hid (Below W.heap.size W wc) := hbw
    have HG : Hid (W.heap.size ≤ g ∧ W.heap.size ≤ bm) := ⟨hg, hbm⟩
    obtain ⟨r0, r1, r2⟩ := (QW.out.keep hbw).cells3
    clear hl hbw hg hbm q0 q1 q2 qa0 qa1 qa2 FROM MK1 MK2 BD BM BA
    go_wp2_with fail
    go_loopw [17] (fun i wr => ∃ k : Nat, k ≤ ds.length ∧ i = .int .i64 k ∧ Hid (Led wr g bm k z bs (mOf (ds.take k))) ∧ Hid (Below W.heap.size W wr)) (fun i _ => ds.length - (intOf i).toNat)
    case atStart => exact ⟨0, Nat.zero_le _, rfl, L0.out, BC.out⟩
    case round =>
      obtain ⟨k, hk, rfl, LR, BR⟩ := hrel
      by_cases hlt : k < ds.length
      · obtain ⟨m, hm, hdm, hm3⟩ := dones_listM HD.out
        obtain ⟨j, t, hj, hmj, hat⟩ := listM_at (m := m) (i := k) (by rw [← hdm]; exact hlt)
        rw [← hdm] at hat
        obtain ⟨b2, o2, rfl, a4⟩ : ∃ b2 o2, a2 = some ⟨b2, o2, none⟩ ∧ At4 wr b2 o2 ds := by
          rcases (S2.out.below BR.out) with h | h
          · rw [h] at hlt; simp at hlt
          · exact h
        obtain ⟨d0, d1, d2, d3⟩ := a4.2 k hlt
        rw [hat] at d0 d1 d2 d3
        simp only at d0 d1 d2 d3
        obtain ⟨t1, t2, t3⟩ := t
        have ht := hm j _ hj hmj
        have NEXT : Hid (setM (mOf (ds.take k)) j (t1, t2, t3) = mOf (ds.take (k + 1))) := by
          show _ = _
          rw [mOf_succ hlt, hat]
          simp
        obtain ⟨Y, hY⟩ : ∃ Y, Y = wr.alloc (.cells #[.int .i64 (j : Int), .int .i64 t1, .int .i64 t2, .int .i64 t3] 94) := ⟨_, rfl⟩
        have bY : Below wr.heap.size wr Y := by rw [hY]; exact below_new _ _
        have DY : Hid (Blk Y wr.heap.size #[.int .i64 (j : Int), .int .i64 t1, .int .i64 t2, .int .i64 t3] 94) := by show Blk _ _ _ _; rw [hY]; exact Blk.new _ _ _
        have LY := LR.out.keep bY
        have BY : Hid (Below W.heap.size W Y) := BR.out.trans (bY.mono BR.out.size)
        have hwf : (Lit.int .i64 t1).wf = true := wfSeq (t := (t1, t2, t3)) ht
        have KEEP : Hid (Calls Tryz.prog 76 #[.pointer (some ⟨g, 0, none⟩), .agg #[.int .i64 (j : Int), .int .i64 t1], .agg #[.int .i64 t2, .int .i64 t3]] Y fun e w' => e = .returned (.tuple #[]) ∧ MapM w' bm (k + 1) (setM (mOf (ds.take k)) j (t1, t2, t3)) ∧ Turned [bm] Y w') :=
          ledKeep g bm k (mOf (ds.take k)) j (t1, t2, t3) Y LY.ok hj hwf (by omega) LY.map LY.blk.lt LY.ne LY.lasts
        have FIN : Hid (∀ w', MapM w' bm (k + 1) (setM (mOf (ds.take k)) j (t1, t2, t3)) ∧ Turned [bm] Y w' → Led w' g bm (k + 1) z bs (mOf (ds.take (k + 1))) ∧ Below W.heap.size W w') := fun w' h => by
          refine ⟨⟨?_, NEXT.out ▸ h.1, LY.ne, LY.bok, NEXT.out ▸ LY.ok.set ht⟩, BY.out.trans ((h.2.below (fun x hx => by simp at hx; rw [hx]; exact HG.out.2) BY.out.size))⟩
          show w'.heap[g]? = _
          rw [h.2.block g LY.blk.lt (by simp; exact fun e => LY.ne e.symm)]; exact LY.blk
        obtain ⟨e0, e1, e2, e3⟩ := DY.out.cells4
        have HY : Hid (Y = _) := hY
        clear hY bY LY hm hdm hm3 hmj hat a4 ht hwf NEXT
        go_upto_region 5 with fail
        rw [← HY.out]
        go_wp2_with fail
        refine Calls.mono KEEP.out ?_
        rintro e w2 ⟨rfl, hp⟩
        have F := FIN.out w2 hp
        have L2 : Hid (Led w2 g bm (k + 1) z bs (mOf (ds.take (k + 1)))) := F.1
        have B2 : Hid (Below W.heap.size W w2) := F.2
        clear hp F
        go_wp2_with fail
        go_roundw
        case rel => exact ⟨k + 1, by omega, by go_num, L2.out, B2.out⟩
        case measure => simp [intOf]; omega
      · obtain rfl : k = ds.length := by omega
        rw [List.take_length] at LR
        go_wp2_with fail
        go_ret
        exact ⟨g, bm, rfl, LR.out.mono (by omega), Nat.le_trans BW.out.size HG.out.1, Nat.le_trans BW.out.size HG.out.2, BW.out.trans (BR.out.mono BW.out.size)⟩
end Go.Proofs.YtbecdihfopjlhaaGreatDoor.Own
