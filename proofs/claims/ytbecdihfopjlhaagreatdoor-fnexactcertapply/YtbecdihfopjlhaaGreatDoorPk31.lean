/-
  Own texts, bundled: LedState.
-/
import Derived.Test.YtbecdihfopjlhaaGreatDoorPk30
import Derived.Test.YtbecdihfopjlhaaGreatDoorPk11
namespace Go.Proofs.YtbecdihfopjlhaaGreatDoor.Own
open Go.RowKit Go.Maps
set_option linter.unusedVariables false
set_option linter.unusedSimpArgs false

/-- The requests of the first k nodes. -/
def listTo (m : Nat → Option T3) (k : Nat) : List Q4 := (List.range k).flatMap fun (i : Nat) => withWho (Int.ofNat i) (m i)
theorem listTo_zero (m : Nat → Option T3) : listTo m 0 = [] := rfl
theorem listTo_succ (m : Nat → Option T3) (k : Nat) : listTo m (k + 1) = listTo m k ++ withWho (k : Int) (m k) := by simp [listTo, List.range_succ]
theorem listTo_three (m : Nat → Option T3) : listTo m 3 = listM m := by simp [listTo, listM, List.range_succ]
theorem listTo_len (m : Nat → Option T3) (k : Nat) : (listTo m k).length ≤ k := by
  induction k with
  | zero => simp [listTo]
  | succ k ih =>
    rw [listTo_succ, List.length_append]
    have : (withWho (k : Int) (m k)).length ≤ 1 := by cases m k <;> simp [withWho]
    omega
theorem OwnQ_open_like {w : World} {B : Nat} {v : Value} {xs : List Q4} (h : OwnE w B v xs) : ∃ a cap, v = .slice a xs.length cap ∧ Sl4 w a xs ∧ xs.length ≤ cap := h.open

set_option maxRecDepth 100000 in
set_option maxHeartbeats 4000000 in
theorem ledState (b bm N : Nat) (z : Int) (bs : List P2) (m : Nat → Option T3) (w : World) (hl : Led w b bm N z bs m) :
    Calls Tryz.prog 37 #[.pointer (some ⟨b, 0, none⟩)] w fun e w' => ∃ g a c, e = .returned (.agg #[.int .i64 z, .slice (some ⟨g, 0, none⟩) 4 4, .slice a (listM m).length c]) ∧ (listM m).length ≤ c ∧ StB bs (listM m) w.heap.size w' (some ⟨g, 0, none⟩) a ∧ Below w.heap.size w w' := by
  obtain ⟨W, hW⟩ : ∃ W, W = w.alloc (.cells #[.int .i64 0, .slice none 0 0, .slice none 0 0] 28) := ⟨_, rfl⟩
  have bW : Below w.heap.size w W := by rw [hW]; exact (Below.refl _ _).alloc (Nat.le_refl _) _
  have BW : Hid (Below w.heap.size w W) := bW
  have ZW : Hid (Blk W w.heap.size #[.int .i64 0, .slice none 0 0, .slice none 0 0] 28) := by show Blk _ _ _ _; rw [hW]; exact Blk.new _ _ _
  have SW : Hid (W.heap.size = w.heap.size + 1) := by show _ = _; rw [hW]; simp
  have LW : Hid (Led W b bm N z bs m) := hl.keep bW
  have HW : Hid (W = _) := hW
  have LB : Hid (b < w.heap.size) := hl.blk.lt
  clear hl hW bW
  go_enter Tryz.func37, Tryz.ntmps37
  go_upto_region 1 with fail
  rw [← HW.out]
  go_wp2_with fail
  go_loopw [3, 8] (fun v i wr => ∃ (k : Nat) (a : Option Addr) (cap : Nat), k ≤ 3 ∧ i = .int .i64 k ∧ v = .slice a (listTo m k).length cap ∧ Hid (OwnE wr W.heap.size (.slice a (listTo m k).length cap) (listTo m k)) ∧ Hid (Below W.heap.size W wr)) (fun _ i _ => 3 - (intOf i).toNat)
  case atStart => exact ⟨0, none, 0, by omega, rfl, rfl, OwnE.nil _ _, Below.refl _ _⟩
  case round =>
    obtain ⟨k, a, cap, hk, rfl, rfl, OW, BR⟩ := hrel
    by_cases hlt : k < 3
    · have LR : Hid (Led wr b bm N z bs m) := LW.out.keep BR.out
      have LAST : Hid (Calls Tryz.prog 81 #[.pointer (some ⟨b, 0, none⟩), .int .i64 (k : Int)] wr fun e w' => e = .returned (.tuple #[.agg #[.int .i64 (lastReq m k).1, .int .i64 (lastReq m k).2], .bool (m k).isSome]) ∧ Below wr.heap.size wr w') :=
        ledLast b bm N m k wr LR.out.ok hlt LR.out.map LR.out.blk.lt LR.out.lasts
      have TS : Hid (listTo m (k + 1) = listTo m k ++ withWho (k : Int) (m k)) := listTo_succ m k
      have LL := listTo_len m k
      cases hmk : m k with
      | none =>
        have lr : lastReq m k = (0, 0) := by unfold lastReq; rw [hmk]
        rw [lr, hmk] at LAST
        have T2 : Hid (listTo m (k + 1) = listTo m k) := by show _ = _; rw [TS.out, hmk]; simp [withWho]
        simp only [Option.isSome_none] at LAST
        clear lr hmk TS
        go_wp2_with fail
        refine Calls.mono LAST.out ?_
        rintro e w1 ⟨rfl, hb1⟩
        have B1 : Hid (Below W.heap.size W w1) := BR.out.trans (hb1.mono BR.out.size)
        have OW1 : Hid (OwnE w1 W.heap.size (.slice a (listTo m k).length cap) (listTo m k)) := OW.out.keep hb1
        clear hb1
        go_wp2_with fail
        go_roundw
        case rel => exact ⟨k + 1, a, cap, by omega, by go_num, by rw [T2.out], by rw [T2.out]; exact OW1.out.keep (below_new _ _), B1.out.alloc B1.out.size _⟩
        case measure => simp [intOf]; omega
      | some t =>
        obtain ⟨t1, t2, t3⟩ := t
        have lr : lastReq m k = ((k : Int), t1) := by unfold lastReq; rw [hmk]
        rw [lr, hmk] at LAST
        have T2 : Hid (listTo m (k + 1) = listTo m k ++ [((k : Int), t1, t2, t3)]) := by show _ = _; rw [TS.out, hmk]; rfl
        have wt := wfSeq (LR.out.ok k _ hlt hmk)
        simp only at wt
        have LKA : Hid (∀ V, Below wr.heap.size wr V → (Instr.lookup 134 (.map (some bm)) (.agg #[.int .i64 (k : Int), .int .i64 t1]) false).run Tryz.prog V = .ok (.agg #[.int .i64 t2, .int .i64 t3]) V) := fun V hV => by
          obtain ⟨c, v, _, h2, h3⟩ := MapM.look_all (LR.out.lasts) LR.out.ok k hlt t1 wt
          obtain ⟨rfl, rfl⟩ := h3 _ hmk rfl
          exact h2 V (hV.block bm LR.out.lasts.lt)
        simp only [Option.isSome_some] at LAST
        clear lr hmk TS wt
        go_wp2_with fail
        refine Calls.mono LAST.out ?_
        rintro e w1 ⟨rfl, hb1⟩
        obtain ⟨X, hX⟩ : ∃ X, X = w1.alloc (.cells #[.int .i64 (k : Int), .int .i64 t1] 46) := ⟨_, rfl⟩
        have bX : Below wr.heap.size wr X := by rw [hX]; exact hb1.alloc hb1.size _
        have BX : Hid (Below W.heap.size W X) := BR.out.trans (bX.mono BR.out.size)
        have OX : Hid (OwnE X W.heap.size (.slice a (listTo m k).length cap) (listTo m k)) := OW.out.keep bX
        have QX : Hid (Blk X w1.heap.size #[.int .i64 (k : Int), .int .i64 t1] 46) := by show Blk _ _ _ _; rw [hX]; exact Blk.new _ _ _
        have hlk := LKA.out X.drew bX.drew
        have hlk2 := LKA.out ((X.alloc (.cells #[.int .i64 0, .int .i64 0] 139)).drew) (bX.alloc bX.size _).drew
        have LX := LW.out.keep BX.out
        have cX := LX.map
        have cA : (X.alloc (.cells #[.int .i64 0, .int .i64 0] 139)).cell? ⟨b, 9, none⟩ = some (.map (some bm)) := by rw [(below_new X _).cell (p := ⟨b, 9, none⟩) LX.blk.lt]; exact cX
        obtain ⟨q0, q1⟩ := QX.out.cells2
        obtain ⟨qa0, qa1⟩ := (QX.out.alloc (.cells #[.int .i64 0, .int .i64 0] 139)).cells2
        have HX : Hid (X = _) := hX
        obtain ⟨Y, hY⟩ : ∃ Y, Y = (X.alloc (.cells #[.int .i64 t2, .int .i64 t3] 139)).drew := ⟨_, rfl⟩
        have bY : Below X.heap.size X Y := by rw [hY]; exact ((Below.refl _ _).alloc (Nat.le_refl _) _).drew
        have BY : Hid (Below W.heap.size W Y) := BX.out.trans (bY.mono BX.out.size)
        have OY : Hid (OwnE Y W.heap.size (.slice a (listTo m k).length cap) (listTo m k)) := OX.out.keep bY
        have QY : Hid (Blk Y w1.heap.size #[.int .i64 (k : Int), .int .i64 t1] 46) := QX.out.keep bY
        have EY : Hid (Blk Y X.heap.size #[.int .i64 t2, .int .i64 t3] 139) := by show Blk _ _ _ _; rw [hY]; exact Blk.new _ _ _
        have HY : Hid (Y = _) := hY
        clear hX bX hb1 LX hY bY LAST LKA
        go_upto_region 7 with fail
        rw [← HX.out]
        go_cut [7] from 18 to 23 (fun p wx => p = .pointer (some ⟨X.heap.size, 0, none⟩) ∧ Y = wx)
        case first =>
          go_region
          all_goals
            go_wp2_with fail
            go_meet
            exact ⟨rfl, HY.out⟩
        case rest =>
          obtain ⟨rfl, rfl⟩ := hcut
          clear q0 q1 qa0 qa1 cX cA hlk hlk2
          obtain ⟨q0, q1⟩ := QY.out.cells2
          obtain ⟨e0, e1⟩ := EY.out.cells2
          obtain ⟨i0, hi, hz0, hz1, hz2⟩ := info_parts infoDone
          have I0 : Hid (Tryz.prog.info? 94 = some i0 ∧ i0.zero = some (.agg #[.int .i64 0, .int .i64 0, .int .i64 0, .int .i64 0]) ∧ i0.size = 4 ∧ i0.bytes = 32) := ⟨hi, hz0, hz1, hz2⟩
          have YS : W.heap.size ≤ Y.heap.size := BY.out.size
          clear hi hz0 hz1 hz2
          go_wp2_with (at_builtin; refine wpList_append_lies _ rfl (.tmp 24) (.tmp 31) 26 rfl W.heap.size 94 i0 (.agg #[.int .i64 0, .int .i64 0, .int .i64 0, .int .i64 0]) 4 32 Tryz.underlying26 I0.out.1 I0.out.2.1 I0.out.2.2.1 I0.out.2.2.2 rfl (by decide) (.slice a (listTo m k).length cap) (listTo m k).length (flat4 (listTo m k)) rfl (OwnE.keep OY.out (below_new _ _)) ⟨Y.heap.size, 0, none⟩ 1 1 [.int .i64 (k : Int), .int .i64 t1, .int .i64 t2, .int .i64 t3] rfl rfl (four_newE _ _ _ _ _) (by simp [Value.oneCell']) (by decide) (by unfold maxLen; omega) (by omega) (by rw [size_new]; omega) (Y.heap.size + 1) (size_new _ _) ?_)
          intro g4 cap4 w4 hown4 hgr hloc hg4
          have OW4 : Hid (OwnE w4 W.heap.size (.slice (some ⟨g4, 0, none⟩) (listTo m k ++ [((k : Int), t1, t2, t3)]).length cap4) (listTo m k ++ [((k : Int), t1, t2, t3)])) := by
            show OwnE _ _ _ _
            unfold OwnE
            rw [List.length_append, flat4_snoc]
            exact hown4
          have B4 : Hid (Below W.heap.size W w4) := (BY.out.alloc BY.out.size _).grown hgr (by rw [size_new]; omega) (fun x hx => by
            cases a with
            | none => cases hx
            | some a0 => 
              simp only [Value.ownBlock] at hx
              injection hx with hx
              have := (OY.out.block a0 rfl).1
              omega)
          clear hown4 hgr hloc hg4
          go_wp2_with fail
          go_roundw
          case rel => exact ⟨k + 1, some ⟨g4, 0, none⟩, cap4, by omega, by go_num, by rw [T2.out]; simp, by rw [T2.out]; exact OW4.out, B4.out⟩
          case measure => simp [intOf]; omega
    · obtain rfl : k = 3 := by omega
      rw [listTo_three] at OW ⊢
      obtain ⟨ds, hds⟩ : ∃ ds, ds = listM m := ⟨_, rfl⟩
      rw [← hds] at OW ⊢
      have HDS : Hid (ds = listM m) := hds
      clear hds
      have LR : Hid (Led wr b bm N z bs m) := LW.out.keep BR.out
      have ZR : Hid (Blk wr w.heap.size #[.int .i64 0, .slice none 0 0, .slice none 0 0] 28) := ZW.out.keep BR.out
      have LIST : Hid (∀ V, Below wr.heap.size wr V → Calls Tryz.prog 82 #[.agg #[.int .i64 (bs.getD 0 (0, 0)).1, .int .i64 (bs.getD 0 (0, 0)).2, .int .i64 (bs.getD 1 (0, 0)).1, .int .i64 (bs.getD 1 (0, 0)).2, .int .i64 (bs.getD 2 (0, 0)).1, .int .i64 (bs.getD 2 (0, 0)).2, .int .i64 (bs.getD 3 (0, 0)).1, .int .i64 (bs.getD 3 (0, 0)).2]] V fun e w' => ∃ g, e = .returned (.slice (some ⟨g, 0, none⟩) 4 4) ∧ V.heap.size ≤ g ∧ BoxAt w' g 0 bs ∧ (∀ o, w'.frozen? ⟨g, o, none⟩ = false) ∧ Below V.heap.size V w') := fun V hV =>
        (arrList _ _ _ _ _ _ _ _ V).mono fun e w' ⟨he, hh, hb, _⟩ => ⟨V.heap.size + 1, he, by omega, arr_at hh LR.out.four, fun o => frozen_heap hh o, hb⟩
      have CLOSE : Hid (∀ (w5 : World) (g : Nat), Below wr.heap.size wr w5 → wr.heap.size ≤ g → BoxAt w5 g 0 bs → (∀ o, w5.frozen? ⟨g, o, none⟩ = false) → ∀ X, X = (((w5.setCell ⟨w.heap.size, 0, none⟩ (.int .i64 z)).setCell ⟨w.heap.size, 1, none⟩ (.slice (some ⟨g, 0, none⟩) 4 4)).setCell ⟨w.heap.size, 2, none⟩ (.slice a ds.length cap)) →
          Blk X w.heap.size #[.int .i64 z, .slice (some ⟨g, 0, none⟩) 4 4, .slice a ds.length cap] 28 ∧ StB bs ds w.heap.size X (some ⟨g, 0, none⟩) a ∧ Below w.heap.size w X) := fun w5 g hb hg hat hfr X hX => by
        have sw := SW.out
        have szr := BR.out.size
        have szb := BW.out.size
        have zb := ZR.out.keep hb
        have ho : Only w.heap.size w5 X := by rw [hX]; exact (((Only.refl _ _).setCell _).setCell _).setCell _
        have tu : Turned [w.heap.size] w5 X := Turned.ofOnly ho (by simp)
        have gl := hat.1
        have od : OwnD w5 W.heap.size a ds := (OW.out.keep hb).dones
        have far : ∀ x, a = some x → W.heap.size ≤ x.block ∧ x.block < wr.heap.size := fun x e => OW.out.block x e
        refine ⟨by rw [hX]; exact (((zb.set 0 _).set 1 _).set 2 _).eq (by simp), ⟨.inr ⟨g, rfl, by omega, hat.turned tu (by simp; omega), fun o => ?_⟩, (od.turned tu (fun g' e => by simp; have := far _ e; simp at this; omega)).weaken (by omega), fun g1 g2 e1 e2 => ?_, fun x e => ?_, fun x e => ?_⟩, ?_⟩
        · rw [World.frozen?_of_block (w := w5) (a := ⟨g, o, none⟩) (tu.block g gl (by simp; omega))]; exact hfr o
        · injection e1 with e1
          injection e1 with e1
          have := far _ e2
          simp only at this
          omega
        · injection e with e
          subst e
          exact ⟨by show w.heap.size ≤ g; omega, by show g < X.heap.size; have := ho.size; omega⟩
        · have := far x e
          have := hb.size
          have := ho.size
          exact ⟨by omega, by omega⟩
        · exact BW.out.trans ((BR.out.mono szb).trans ((hb.mono (by omega)).trans (ho.below (Nat.le_refl _))))
      have BD : Hid (Below wr.heap.size wr wr.drew) := (Below.refl _ _).drew
      have CE : Hid (∀ V, Below wr.heap.size wr V → V.cell? ⟨b, 0, none⟩ = some (.int .i64 z) ∧ (V.cell? ⟨w.heap.size, 0, none⟩ = some (.int .i64 0) ∧ V.cell? ⟨w.heap.size, 1, none⟩ = some (.slice none 0 0) ∧ V.cell? ⟨w.heap.size, 2, none⟩ = some (.slice none 0 0)) ∧ (∀ o, V.frozen? ⟨w.heap.size, o, none⟩ = false)) := fun V hV => ⟨(LR.out.keep hV).at0, (ZR.out.keep hV).cells3, (ZR.out.keep hV).frozen⟩
      obtain ⟨k1, k2, k3, k4, k5, k6, k7, k8⟩ := led_cells LR.out.blk
      obtain ⟨k0, ⟨z0, z1, z2⟩, fz⟩ := CE.out wr (Below.refl _ _)
      have hcap : ds.length ≤ cap := by
        obtain ⟨a', c', e, _, h⟩ := OwnQ_open_like OW.out
        injection e with _ _ e3
        omega
      go_upto_region 10 with fail
      go_cut [] from 34 to 44 (fun wx => ∃ g, Blk wx w.heap.size #[.int .i64 z, .slice (some ⟨g, 0, none⟩) 4 4, .slice a ds.length cap] 28 ∧ StB bs ds w.heap.size wx (some ⟨g, 0, none⟩) a ∧ Below w.heap.size w wx)
      case first =>
        go_region_with (go_at_call 82; refine Calls.mono (LIST.out _ BD.out) ?_; rintro e w5 ⟨g, rfl, hg, hat, hfr, hb⟩; have B5 : Hid (Below wr.heap.size wr w5) := BD.out.trans hb; have HG : Hid (wr.heap.size ≤ g ∧ BoxAt w5 g 0 bs ∧ ∀ o, w5.frozen? ⟨g, o, none⟩ = false) := ⟨hg, hat, hfr⟩; obtain ⟨j0, ⟨y0, y1, y2⟩, fy⟩ := CE.out w5 B5.out; clear hb hg hat hfr)
        all_goals
          go_wp2_with fail
          go_meet
          exact ⟨g, CLOSE.out w5 g B5.out HG.out.1 HG.out.2.1 HG.out.2.2 _ rfl⟩
      case rest =>
        obtain ⟨g, hblk, hst, hbl⟩ := hcut
        obtain ⟨c0, c1, c2⟩ := hblk.cells3
        have F : Hid (StB bs ds w.heap.size wc (some ⟨g, 0, none⟩) a ∧ Below w.heap.size w wc) := ⟨hst, hbl⟩
        clear hst hbl hblk
        go_wp2_with fail
        refine bodyPost_ret (v := .agg #[.int .i64 z, .slice (some ⟨g, 0, none⟩) 4 4, .slice a ds.length cap]) (by simp [results, Tryz.results37, go_sem, c0, c1, c2]) rfl ?_
        have e := HDS.out
        subst e
        exact ⟨g, a, cap, rfl, hcap, F.out.1, F.out.2⟩
end Go.Proofs.YtbecdihfopjlhaaGreatDoor.Own
