/-
  Own texts, bundled: L3Look, L3Put, OwnB, Turned, RunHeld, ExecOkI, BoxOkI, ExecOkI2, ExecFreshI, ExecOkS2, ExecOkS3, ExecFreshS.
-/
import Derived.Test.YtgcencilgpilaaaPk2
import Derived.Deep.RegionLaw
import Derived.Deep.AppendLies
import Derived.StillTactics
import Derived.Laws.Pointers
import Derived.Test.YtgcencilgpilaaaPk1
import Derived.BigQuiet
import Derived.Deep.QuietTactic
import Derived.Deep.Cut
import Derived.Deep.CutRange
namespace Go.Proofs.Ytgcencilgpilaaa.Own
open Go.RowKit
set_option linter.unusedVariables false
set_option linter.unusedSimpArgs false

/-- What looking leaves. -/
def LookPost (bs xs ys : List P2) (j : Nat) (B : Nat) (rv pv : Value) (v k : Int) (w : World) (e : Ending) (w' : World) : Prop :=
  ∃ rv', e = .returned (.tuple #[.int .i64 (inBox bs ys j), .agg #[rv', pv, .int .i64 v, .int .i64 k]]) ∧ OwnP 40 w' B rv' (lookR bs xs ys j) ∧ OwnP 36 w' B pv ys ∧
    (rv'.ownBlock = none ∨ rv'.ownBlock ≠ pv.ownBlock) ∧ w.grownBy w' rv.ownBlock ∧ (∀ g, rv'.ownBlock = some g → rv.ownBlock = some g ∨ w.heap.size ≤ g)

theorem infoRead : (Try.prog.info? 40).map (fun i => (i.zero, i.size, i.bytes)) = some (some (.agg #[.int .i64 0, .int .i64 0]), 2, 16) := by kernel_rfl

set_option maxRecDepth 100000 in
set_option maxHeartbeats 4000000 in
theorem l3Look (la : Option Addr) (lc : Nat) (bs : List P2) (j : Nat) (rv pv : Value) (xs ys : List P2) (v k : Int) (B : Nat) (w : World)
    (hb : Sl w la bs) (hj : j < bs.length) (l0 : bs.length ≤ 2 ^ 40) (hla : ∀ x, la = some x → rv.ownBlock ≠ some x.block)
    (hr : OwnP 40 w B rv xs) (hp : OwnP 36 w B pv ys) (hd : rv.ownBlock = none ∨ rv.ownBlock ≠ pv.ownBlock) (hB : B ≤ w.heap.size) (lx : xs.length ≤ 1000) (ly : ys.length ≤ 1000) :
    Calls Try.prog 159 #[.slice la bs.length lc, .agg #[rv, pv, .int .i64 v, .int .i64 k], .int .i64 j] w fun e w' => LookPost bs xs ys j B rv pv v k w e w' := by
  obtain ⟨ar, cr, hrv, slr, hcr, hmr, hbr⟩ := hr.open
  obtain ⟨ap, cp, hpv, slp, hcp, hmp, hbp⟩ := hp.open
  have HR : Hid (OwnP 40 w B rv xs) := hr
  have HP : Hid (OwnP 36 w B pv ys) := hp
  have HD : Hid (rv.ownBlock = none ∨ rv.ownBlock ≠ pv.ownBlock) := hd
  have HLA : Hid (∀ x, la = some x → rv.ownBlock ≠ some x.block) := hla
  have HRV : Hid (rv = .slice ar xs.length cr) := hrv
  have HPV : Hid (pv = .slice ap ys.length cp) := hpv
  have SR : Hid (Sl w ar xs) := slr
  have SP : Hid (Sl w ap ys) := slp
  have SB : Hid (Sl w la bs) := hb
  clear hr hp hd hla slr slp hb hbr hbp hcr hcp hmr hmp
  obtain ⟨W, hW⟩ : ∃ W, W = (w.alloc (.cells #[.slice ar xs.length cr, .slice ap ys.length cp, .int .i64 v, .int .i64 k] 27)).alloc (.cells #[.slice none 0 0, .slice none 0 0, .int .i64 0, .int .i64 0] 27) := ⟨_, rfl⟩
  have BW : Hid (Below w.heap.size w W) := by show Below _ _ _; rw [hW]; exact ((Below.refl _ _).alloc (Nat.le_refl _) _).alloc (by simp) _
  have HSW : Hid (W.heap.size = w.heap.size + 2) := by show _ = _; rw [hW]; simp
  have hNW : w.heap.size + 1 < W.heap.size := by have := HSW.out; omega
  have hBW : B ≤ W.heap.size := by omega
  have g0 : Hid (W.heap[w.heap.size]? = some (.cells #[.slice ar xs.length cr, .slice ap ys.length cp, .int .i64 v, .int .i64 k] 27 (0, 0))) := by show _ = _; rw [hW]; exact heap_new1 _ _ _
  have g1 : Hid (W.heap[w.heap.size + 1]? = some (.cells #[.slice none 0 0, .slice none 0 0, .int .i64 0, .int .i64 0] 27 (0, 0))) := by show _ = _; rw [hW]; exact heap_new2 _ _ _
  have HW : Hid (W = _) := hW
  clear hW
  have q0 : W.cell? ⟨w.heap.size, 0, none⟩ = some (.slice ar xs.length cr) := by rw [cell_heap g0.out]; rfl
  have q1 : W.cell? ⟨w.heap.size, 1, none⟩ = some (.slice ap ys.length cp) := by rw [cell_heap g0.out]; rfl
  have q2 : W.cell? ⟨w.heap.size, 2, none⟩ = some (.int .i64 v) := by rw [cell_heap g0.out]; rfl
  have q3 : W.cell? ⟨w.heap.size, 3, none⟩ = some (.int .i64 k) := by rw [cell_heap g0.out]; rfl
  have z0 : W.cell? ⟨w.heap.size + 1, 0, none⟩ = some (.slice none 0 0) := by rw [cell_heap g1.out]; rfl
  have z1 : W.cell? ⟨w.heap.size + 1, 1, none⟩ = some (.slice none 0 0) := by rw [cell_heap g1.out]; rfl
  have z2 : W.cell? ⟨w.heap.size + 1, 2, none⟩ = some (.int .i64 0) := by rw [cell_heap g1.out]; rfl
  have z3 : W.cell? ⟨w.heap.size + 1, 3, none⟩ = some (.int .i64 0) := by rw [cell_heap g1.out]; rfl
  have fz : ∀ o, W.frozen? ⟨w.heap.size + 1, o, none⟩ = false := fun o => frozen_heap g1.out o
  have lR : Hid (∀ g, rv.ownBlock = some g → g < w.heap.size) := fun g hg => (World.ownsRow.lt HR.out g hg).2
  have lP : Hid (∀ g, pv.ownBlock = some g → g < w.heap.size) := fun g hg => (World.ownsRow.lt HP.out g hg).2
  -- where nothing but its own cells has turned
  have FIN : Hid (∀ W', W.grownBy W' (some (w.heap.size + 1)) → lookR bs xs ys j = xs → OwnP 40 W' B rv (lookR bs xs ys j) ∧ OwnP 36 W' B pv ys ∧ (rv.ownBlock = none ∨ rv.ownBlock ≠ pv.ownBlock) ∧ w.grownBy W' rv.ownBlock ∧ (∀ g, rv.ownBlock = some g → rv.ownBlock = some g ∨ w.heap.size ≤ g)) := fun W' hg hl => by
    have e : w.grownBy W' none := grNew (grBelow BW.out) hg (by omega)
    rw [hl]
    exact ⟨HR.out.keep e (by cases h : rv.ownBlock <;> simp), HP.out.keep e (by cases h : pv.ownBlock <;> simp), HD.out, grBut e _, fun g e => .inl e⟩
  rw [HRV.out, HPV.out]
  go_enter Try.func159, Try.ntmps159
  go_wp2_with fail
  rw [← HW.out]
  refine (l3At ap cp ys.length ys j W (SP.out.below BW.out) rfl (by omega)).mono ?_
  rintro e w1 ⟨rfl, hw⟩
  rw [hw]
  clear hw
  cases hy : hasBox ys j with
  | true =>
    obtain ⟨pe, pl⟩ := place_idx ys j hy
    rw [pe]
    have EI : Hid (inBox bs ys j = (ys.getD (idxBox ys j) (0, 0)).2) := by show _ = _; simp [inBox, hy]
    have EL : Hid (lookR bs xs ys j = xs) := by show _ = _; simp [lookR, hy]
    generalize idxBox ys j = m at pl EI
    clear pe hy
    rcases (SP.out.below BW.out) with h0 | ⟨b, off, rfl, hat⟩
    · rw [h0] at pl; simp at pl
    have cy := (hat.2 m pl).2
    rw [← EI.out] at cy
    clear hat
    have dm : decide ((0 : Int) ≤ (m : Int)) = true := by simp
    have hml : (m : Int) < ((ys.length : Nat) : Int) := by omega
    go_wp2
    go_region
    all_goals
      go_wp2
      refine bodyPost_ret (v := .tuple #[.int .i64 (inBox bs ys j), .agg #[.slice ar xs.length cr, .slice (some ⟨b, off, none⟩) ys.length cp, .int .i64 v, .int .i64 k]]) (by simp [results, Try.results159, go_sem, z0, z1, z2, z3]) rfl ⟨rv, by rw [HRV.out], ?_⟩
      rw [← HRV.out, ← HPV.out]
      refine FIN.out _ ?_ EL.out
      repeat (first | exact grR _ _ | apply grSet | apply grDrew | apply grDrewN)
  | false =>
    rw [place_no ys j hy]
    have EI : Hid (inBox bs ys j = (bs.getD j (0, 0)).2) := by show _ = _; simp [inBox, hy]
    have YN : Hid (hasBox ys j = false) := hy
    clear hy
    rcases SB.out with h0 | ⟨b, off, rfl, hat0⟩
    · rw [h0] at hj; simp at hj
    have hat := hat0.below BW.out
    have hbw : b < w.heap.size := hat0.1
    clear hat0
    have cv := (hat.2 j hj).1
    have cl := (hat.2 j hj).2
    have hbW : b < W.heap.size := hat.1
    rw [← EI.out] at cl
    obtain ⟨ver, hver⟩ : ∃ z, z = (bs.getD j (0, 0)).1 := ⟨_, rfl⟩
    rw [← hver] at cv
    have HV : Hid (ver = (bs.getD j (0, 0)).1) := hver
    clear hat hver
    have hjl : (j : Int) < ((bs.length : Nat) : Int) := by omega
    go_wp2_with fail
    refine (l3Saw ar cr xs.length xs j W (SR.out.below BW.out) rfl (by omega)).mono ?_
    rintro e w1 ⟨rfl, hw⟩
    rw [hw]
    clear hw
    cases hx : (xs.any fun p => p.1 == (j : Int)) with
    | true =>
      have EL : Hid (lookR bs xs ys j = xs) := by show _ = _; unfold lookR; rw [YN.out]; simp [show hasBox xs j = true from hx]
      clear hx
      go_wp2
      go_region
      all_goals
        go_wp2
        refine bodyPost_ret (v := .tuple #[.int .i64 (inBox bs ys j), .agg #[.slice ar xs.length cr, .slice ap ys.length cp, .int .i64 v, .int .i64 k]]) (by simp [results, Try.results159, go_sem, z0, z1, z2, z3]) rfl ⟨rv, by rw [HRV.out], ?_⟩
        rw [← HRV.out, ← HPV.out]
        refine FIN.out _ ?_ EL.out
        repeat (first | exact grR _ _ | apply grSet | apply grDrew | apply grDrewN)
    | false =>
      have EL : Hid (lookR bs xs ys j = xs ++ [((j : Int), ver)]) := by show _ = _; unfold lookR; rw [YN.out, HV.out]; simp [show hasBox xs j = false from hx]
      clear hx
      obtain ⟨i0, hi0, hz0, hz1, hz2⟩ := info_parts infoRead
      have HRW : Hid (W.ownsRow B 40 2 (.slice ar xs.length cr) xs.length (flat xs)) := by
        show W.ownsRow _ _ _ _ _ _
        rw [← HRV.out]; exact HR.out.below BW.out
      have OB : Hid (rv.ownBlock = (Value.slice ar xs.length cr).ownBlock) := by show _ = _; rw [HRV.out]
      have hN : Hid (xs.length + 1 ≤ maxLen) := by show _ ≤ _; unfold maxLen; omega
      have hBy : Hid ((xs.length + 1) * 16 ≤ 140737488355328) := by show _ ≤ _; omega
      have nN : Hid ((Value.slice ar xs.length cr).ownBlock ≠ some w.heap.size ∧ (Value.slice ar xs.length cr).ownBlock ≠ some (w.heap.size + 1) ∧ (Value.slice ar xs.length cr).ownBlock ≠ some b) := by
        show _ ∧ _
        rw [← OB.out]
        exact ⟨fun e => by have := lR.out _ e; omega, fun e => by have := lR.out _ e; omega, HLA.out _ rfl⟩
      have AFT : Hid (∀ w1 : World, W.grownBy w1 (Value.slice ar xs.length cr).ownBlock → w1.heap[w.heap.size]? = some (.cells #[.slice ar xs.length cr, .slice ap ys.length cp, .int .i64 v, .int .i64 k] 27 (0, 0)) ∧ w1.heap[w.heap.size + 1]? = some (.cells #[.slice none 0 0, .slice none 0 0, .int .i64 0, .int .i64 0] 27 (0, 0)) ∧ w1.cell? ⟨b, off + j * 2, none⟩ = some (.int .i64 ver) ∧ w1.cell? ⟨b, off + j * 2 + 1, none⟩ = some (.int .i64 (inBox bs ys j))) := fun w1 hg => by
        refine ⟨?_, ?_, ?_, ?_⟩
        · rw [hg.block _ (by omega) (Ne.symm nN.out.1)]; exact g0.out
        · rw [hg.block _ (by omega) (Ne.symm nN.out.2.1)]; exact g1.out
        · rw [hg.cell_far ⟨b, off + j * 2, none⟩ hbW (Ne.symm nN.out.2.2)]; exact cv
        · rw [hg.cell_far ⟨b, off + j * 2 + 1, none⟩ hbW (Ne.symm nN.out.2.2)]; exact cl
      have FIN2 : Hid (∀ (w1 : World) (gg cap : Nat), W.grownBy w1 (Value.slice ar xs.length cr).ownBlock → w1.ownsRow B 40 2 (.slice (some ⟨gg, 0, none⟩) (xs.length + 1) cap) (xs.length + 1) (flat xs ++ [.int .i64 j, .int .i64 ver]) → ((Value.slice ar xs.length cr).ownBlock = some gg ∨ gg = W.heap.size + 1) → ∀ W', (w1.setCell ⟨w.heap.size, 0, none⟩ (.slice (some ⟨gg, 0, none⟩) (xs.length + 1) cap)).grownBy W' (some (w.heap.size + 1)) → OwnP 40 W' B (.slice (some ⟨gg, 0, none⟩) (xs.length + 1) cap) (lookR bs xs ys j) ∧ OwnP 36 W' B pv ys ∧ ((Value.slice (some ⟨gg, 0, none⟩) (xs.length + 1) cap).ownBlock = none ∨ (Value.slice (some ⟨gg, 0, none⟩) (xs.length + 1) cap).ownBlock ≠ pv.ownBlock) ∧ w.grownBy W' rv.ownBlock ∧ (∀ g, (Value.slice (some ⟨gg, 0, none⟩) (xs.length + 1) cap).ownBlock = some g → rv.ownBlock = some g ∨ w.heap.size ≤ g)) := by
        intro w1 gg cap hg ho hat W' hk
        have s1 : w1.grownBy (w1.setCell ⟨w.heap.size, 0, none⟩ (.slice (some ⟨gg, 0, none⟩) (xs.length + 1) cap)) (some w.heap.size) := grSet (grR _ _) _
        have hgg : gg ≠ w.heap.size ∧ gg ≠ w.heap.size + 1 ∧ (∀ q, pv.ownBlock = some q → gg ≠ q) := by
          rcases hat with h | h
          · rw [← OB.out] at h
            have := lR.out _ h
            refine ⟨by omega, by omega, fun q hq e => ?_⟩
            rcases HD.out with h' | h'
            · rw [h] at h'; cases h'
            · exact h' (by rw [h, hq, e])
          · refine ⟨by omega, by omega, fun q hq e => ?_⟩
            have := lP.out _ hq
            omega
        refine ⟨?_, ?_, ?_, ?_, ?_⟩
        · have o : OwnP 40 w1 B (.slice (some ⟨gg, 0, none⟩) (xs.length + 1) cap) (xs ++ [((j : Int), ver)]) := by
            unfold OwnP
            rw [List.length_append, flat_snocP]
            exact ho
          rw [EL.out]
          refine (o.keep s1 (.inr ?_)).keep hk (.inr ?_)
          · intro e; injection e with e; exact hgg.1 e
          · intro e; injection e with e; exact hgg.2.1 e
        · refine (((HP.out.below BW.out).keep hg ?_).keep s1 ?_).keep hk ?_
          · rw [← OB.out]
            rcases HD.out with h' | h'
            · rw [h']; cases pv.ownBlock <;> simp
            · exact .inr (Ne.symm h')
          · cases h : pv.ownBlock with
            | none => exact .inl rfl
            | some q => refine .inr fun e => ?_; injection e with e; have := lP.out _ h; omega
          · cases h : pv.ownBlock with
            | none => exact .inl rfl
            | some q => refine .inr fun e => ?_; injection e with e; have := lP.out _ h; omega
        · refine .inr fun e => ?_
          exact hgg.2.2 gg e.symm rfl
        · rw [OB.out]
          exact grNew (grNew ((grBelow BW.out).trans hg) s1 (Nat.le_refl _)) hk (by omega)
        · intro g e
          have e' : gg = g := Option.some.inj e
          subst e'
          rcases hat with h | h
          · exact .inl (by rw [OB.out]; exact h)
          · exact .inr (by omega)
      have qa : (W.alloc (.cells #[.int .i64 j, .int .i64 ver] 40)).cell? ⟨w.heap.size, 0, none⟩ = some (.slice ar xs.length cr) := (World.cell?_of_block (w := W) (a := ⟨w.heap.size, 0, none⟩) (heap_old _ _ _ (by show w.heap.size < _; omega))).trans q0
      go_wp2_with fail
      go_region_law ((refine step_append_lies _ (by rfl) _ _ _ (by rfl) B 40 i0 _ 2 16 Try.underlying24 hi0 hz0 hz1 hz2 rfl (by omega) (.slice ar xs.length cr) xs.length (flat xs) (by rfl) ((HRW.out.alloc _).drew) ⟨W.heap.size, 0, none⟩ 1 1 [.int .i64 j, .int .i64 ver] (by rfl) (by rfl) (World.news_of_block (cs := #[.int .i64 j, .int .i64 ver]) (t := 40) (fr := (0, 0)) (heap_alloc_new W _)) (by simp [Value.oneCell']) (by omega) hN.out hBy.out (by simp; omega) (W.heap.size + 1) (by simp) ?_; intro gg cap w1 hown1 hgrow hat hlt; have GW : W.grownBy w1 (Value.slice ar xs.length cr).ownBlock := World.grownBy.trans (grDrew (grAlloc (grR W _) _)) hgrow; have f0 : w1.frozen? ⟨w.heap.size, 0, none⟩ = false := frozen_heap (AFT.out w1 GW).1 0; have c0 : w1.cell? ⟨w.heap.size, 0, none⟩ = some (.slice ar xs.length cr) := (cell_heap (AFT.out w1 GW).1 0).trans rfl))
      all_goals
        obtain ⟨G0, G1, cv1, cl1⟩ := AFT.out w1 GW
        have c1 : w1.cell? ⟨w.heap.size, 1, none⟩ = some (.slice ap ys.length cp) := (cell_heap G0 1).trans rfl
        have c2 : w1.cell? ⟨w.heap.size, 2, none⟩ = some (.int .i64 v) := (cell_heap G0 2).trans rfl
        have c3 : w1.cell? ⟨w.heap.size, 3, none⟩ = some (.int .i64 k) := (cell_heap G0 3).trans rfl
        have y0 : w1.cell? ⟨w.heap.size + 1, 0, none⟩ = some (.slice none 0 0) := (cell_heap G1 0).trans rfl
        have y1 : w1.cell? ⟨w.heap.size + 1, 1, none⟩ = some (.slice none 0 0) := (cell_heap G1 1).trans rfl
        have y2 : w1.cell? ⟨w.heap.size + 1, 2, none⟩ = some (.int .i64 0) := (cell_heap G1 2).trans rfl
        have y3 : w1.cell? ⟨w.heap.size + 1, 3, none⟩ = some (.int .i64 0) := (cell_heap G1 3).trans rfl
        have fy : ∀ o, w1.frozen? ⟨w.heap.size + 1, o, none⟩ = false := fun o => frozen_heap G1 o
        have F2 := FIN2.out w1 gg cap GW hown1 hat
        have F3 : Hid _ := F2
        have bn : ¬ b = w.heap.size := by omega
        have bn' : ¬ w.heap.size = b := by omega
        clear G0 G1 hown1 hgrow hat hlt F2
        go_wp2
        go_region
        all_goals
          go_wp2
          refine bodyPost_ret (v := .tuple #[.int .i64 (inBox bs ys j), .agg #[.slice (some ⟨gg, 0, none⟩) (xs.length + 1) cap, .slice ap ys.length cp, .int .i64 v, .int .i64 k]]) (by simp [results, Try.results159, go_sem, y0, y1, y2, y3]) rfl ⟨_, rfl, ?_⟩
          rw [← HRV.out, ← HPV.out]
          refine F3.out _ ?_
          repeat (first | exact grR _ _ | apply grSet | apply grDrew | apply grDrewN)
end Go.Proofs.Ytgcencilgpilaaa.Own

namespace Go.Proofs.Ytgcencilgpilaaa.Own
open Go.RowKit
set_option linter.unusedVariables false
set_option linter.unusedSimpArgs false

theorem OwnP.frozen {t : TypeId} {w : World} {B g n cap : Nat} {xs : List P2} (h : w.ownsRow B t 2 (.slice (some ⟨g, 0, none⟩) n cap) n (flat xs)) (o : Nat) : w.frozen? ⟨g, o, none⟩ = false := by
  obtain ⟨h1, h2⟩ := h
  rcases h2 with ⟨hv, h0⟩ | ⟨g', cap', cur, hv, hg, hh, r⟩
  · cases hv
  · injection hv with e1 e2 e3
    injection e1 with e1
    injection e1 with e1
    subst e1
    exact frozen_heap hh o

/-- What putting leaves. -/
def PutPost (xs ys : List P2) (j : Nat) (n : Int) (B : Nat) (rv pv : Value) (v k : Int) (w : World) (e : Ending) (w' : World) : Prop :=
  ∃ pv', e = .returned (.agg #[rv, pv', .int .i64 v, .int .i64 k]) ∧ OwnP 40 w' B rv xs ∧ OwnP 36 w' B pv' (putP ys j n) ∧
    (rv.ownBlock = none ∨ rv.ownBlock ≠ pv'.ownBlock) ∧ w.grownBy w' pv.ownBlock ∧ (∀ g, pv'.ownBlock = some g → pv.ownBlock = some g ∨ w.heap.size ≤ g)

theorem infoPut : (Try.prog.info? 36).map (fun i => (i.zero, i.size, i.bytes)) = some (some (.agg #[.int .i64 0, .int .i64 0]), 2, 16) := by kernel_rfl

set_option maxRecDepth 100000 in
set_option maxHeartbeats 4000000 in
theorem l3Put (j : Nat) (n : Int) (rv pv : Value) (xs ys : List P2) (v k : Int) (B : Nat) (w : World)
    (hr : OwnP 40 w B rv xs) (hp : OwnP 36 w B pv ys) (hd : rv.ownBlock = none ∨ rv.ownBlock ≠ pv.ownBlock) (hB : B ≤ w.heap.size) (ly : ys.length ≤ 1000) :
    Calls Try.prog 160 #[.agg #[rv, pv, .int .i64 v, .int .i64 k], .int .i64 j, .int .i64 n] w fun e w' => PutPost xs ys j n B rv pv v k w e w' := by
  obtain ⟨ar, cr, hrv, slr, hcr, hmr, hbr⟩ := hr.open
  obtain ⟨ap, cp, hpv, slp, hcp, hmp, hbp⟩ := hp.open
  have HR : Hid (OwnP 40 w B rv xs) := hr
  have HP : Hid (OwnP 36 w B pv ys) := hp
  have HD : Hid (rv.ownBlock = none ∨ rv.ownBlock ≠ pv.ownBlock) := hd
  have HRV : Hid (rv = .slice ar xs.length cr) := hrv
  have HPV : Hid (pv = .slice ap ys.length cp) := hpv
  have SP : Hid (Sl w ap ys) := slp
  have HBP : Hid (∀ x, ap = some x → pv.ownBlock = some x.block ∧ x.off = 0 ∧ x.spot = none) := hbp
  clear hr hp hd slr slp hbr hbp hcr hcp hmr hmp
  obtain ⟨W, hW⟩ : ∃ W, W = (w.alloc (.cells #[.slice ar xs.length cr, .slice ap ys.length cp, .int .i64 v, .int .i64 k] 27)).alloc (.cells #[.slice none 0 0, .slice none 0 0, .int .i64 0, .int .i64 0] 27) := ⟨_, rfl⟩
  have BW : Hid (Below w.heap.size w W) := by show Below _ _ _; rw [hW]; exact ((Below.refl _ _).alloc (Nat.le_refl _) _).alloc (by simp) _
  have HSW : Hid (W.heap.size = w.heap.size + 2) := by show _ = _; rw [hW]; simp
  have hNW : w.heap.size + 1 < W.heap.size := by have := HSW.out; omega
  have hBW : B ≤ W.heap.size := by omega
  have g0 : Hid (W.heap[w.heap.size]? = some (.cells #[.slice ar xs.length cr, .slice ap ys.length cp, .int .i64 v, .int .i64 k] 27 (0, 0))) := by show _ = _; rw [hW]; exact heap_new1 _ _ _
  have g1 : Hid (W.heap[w.heap.size + 1]? = some (.cells #[.slice none 0 0, .slice none 0 0, .int .i64 0, .int .i64 0] 27 (0, 0))) := by show _ = _; rw [hW]; exact heap_new2 _ _ _
  have HW : Hid (W = _) := hW
  clear hW
  have q0 : W.cell? ⟨w.heap.size, 0, none⟩ = some (.slice ar xs.length cr) := by rw [cell_heap g0.out]; rfl
  have q1 : W.cell? ⟨w.heap.size, 1, none⟩ = some (.slice ap ys.length cp) := by rw [cell_heap g0.out]; rfl
  have q2 : W.cell? ⟨w.heap.size, 2, none⟩ = some (.int .i64 v) := by rw [cell_heap g0.out]; rfl
  have q3 : W.cell? ⟨w.heap.size, 3, none⟩ = some (.int .i64 k) := by rw [cell_heap g0.out]; rfl
  have z0 : W.cell? ⟨w.heap.size + 1, 0, none⟩ = some (.slice none 0 0) := by rw [cell_heap g1.out]; rfl
  have z1 : W.cell? ⟨w.heap.size + 1, 1, none⟩ = some (.slice none 0 0) := by rw [cell_heap g1.out]; rfl
  have z2 : W.cell? ⟨w.heap.size + 1, 2, none⟩ = some (.int .i64 0) := by rw [cell_heap g1.out]; rfl
  have z3 : W.cell? ⟨w.heap.size + 1, 3, none⟩ = some (.int .i64 0) := by rw [cell_heap g1.out]; rfl
  have fz : ∀ o, W.frozen? ⟨w.heap.size + 1, o, none⟩ = false := fun o => frozen_heap g1.out o
  have lR : Hid (∀ g, rv.ownBlock = some g → g < w.heap.size) := fun g hg => (World.ownsRow.lt HR.out g hg).2
  have lP : Hid (∀ g, pv.ownBlock = some g → g < w.heap.size) := fun g hg => (World.ownsRow.lt HP.out g hg).2
  rw [HRV.out, HPV.out]
  go_enter Try.func160, Try.ntmps160
  go_wp2_with fail
  rw [← HW.out]
  refine (l3At ap cp ys.length ys j W (SP.out.below BW.out) rfl (by omega)).mono ?_
  rintro e w1 ⟨rfl, hw⟩
  rw [hw]
  clear hw
  cases hy : hasBox ys j with
  | true =>
    obtain ⟨pe, pl⟩ := place_idx ys j hy
    rw [pe]
    have EP : Hid (putP ys j n = ys.set (idxBox ys j) ((ys.getD (idxBox ys j) (0, 0)).1, n)) := by show _ = _; simp [putP, hy]
    generalize idxBox ys j = m at pl EP
    clear pe hy
    rcases SP.out with h0 | ⟨b, off, rfl, hat0⟩
    · rw [h0] at pl; simp at pl
    obtain ⟨ob, h0, _⟩ := HBP.out _ rfl
    dsimp only at ob h0
    subst h0
    have hbw : b < w.heap.size := hat0.1
    have HPW : Hid (OwnP 36 W B (.slice (some ⟨b, 0, none⟩) ys.length cp) ys) := by
      show OwnP _ _ _ _ _
      rw [← HPV.out]; exact HP.out.below BW.out
    have cy := ((hat0.below BW.out).2 m pl).2
    rw [Nat.zero_add] at cy
    have fb : ∀ o, W.frozen? ⟨b, o, none⟩ = false := fun o => OwnP.frozen HPW.out o
    clear hat0
    have dm : decide ((0 : Int) ≤ (m : Int)) = true := by simp
    have hml : (m : Int) < ((ys.length : Nat) : Int) := by omega
    have bn : ¬ b = w.heap.size := by omega
    have bn' : ¬ w.heap.size = b := by omega
    have bm : ¬ b = w.heap.size + 1 := by omega
    have bm' : ¬ w.heap.size + 1 = b := by omega
    have FIN : Hid (∀ W', (W.setCell ⟨b, m * 2 + 1, none⟩ (.int .i64 n)).grownBy W' (some (w.heap.size + 1)) → OwnP 40 W' B rv xs ∧ OwnP 36 W' B (.slice (some ⟨b, 0, none⟩) ys.length cp) (putP ys j n) ∧ (rv.ownBlock = none ∨ rv.ownBlock ≠ (Value.slice (some ⟨b, 0, none⟩) ys.length cp).ownBlock) ∧ w.grownBy W' pv.ownBlock ∧ (∀ g, (Value.slice (some ⟨b, 0, none⟩) ys.length cp).ownBlock = some g → pv.ownBlock = some g ∨ w.heap.size ≤ g)) := by
      intro W' hk
      have s1 : W.grownBy (W.setCell ⟨b, m * 2 + 1, none⟩ (.int .i64 n)) (some b) := grSet (grR _ _) _
      refine ⟨?_, ?_, ?_, ?_, ?_⟩
      · refine ((HR.out.below BW.out).keep s1 ?_).keep hk ?_
        · rw [← ob]; exact HD.out
        · cases h : rv.ownBlock with
          | none => exact .inl rfl
          | some q => refine .inr fun e => ?_; injection e with e; have := lR.out _ h; omega
      · have o := (HPW.out.set m pl n)
        rw [EP.out]
        have o2 : OwnP 36 W' B (.slice (some ⟨b, 0, none⟩) ys.length cp) (ys.set m ((ys.getD m (0, 0)).1, n)) := o.keep hk (.inr fun e => by injection e with e; exact bm e)
        exact o2
      · show _ ∨ rv.ownBlock ≠ some b
        rw [← ob]; exact HD.out
      · rw [ob]; exact grNew ((grBelow BW.out).trans s1) hk (by omega)
      · intro g e; exact .inl (by rw [ob]; exact e)
    have FIN' : Hid (∀ W', (W.setCell ⟨b, m * 2 + 1, none⟩ (.int .i64 n)).grownBy W' (some (w.heap.size + 1)) → OwnP 40 W' B rv xs ∧ OwnP 36 W' B pv (putP ys j n) ∧ (rv.ownBlock = none ∨ rv.ownBlock ≠ pv.ownBlock) ∧ w.grownBy W' pv.ownBlock ∧ (∀ g, pv.ownBlock = some g → pv.ownBlock = some g ∨ w.heap.size ≤ g)) := fun W' hk => by
      have F := FIN.out W' hk
      rw [← HPV.out] at F
      exact F
    go_wp2
    refine bodyPost_ret (v := .agg #[.slice ar xs.length cr, .slice (some ⟨b, 0, none⟩) ys.length cp, .int .i64 v, .int .i64 k]) (by simp [results, Try.results160, go_sem, z0, z1, z2, z3, bm, bm']) rfl ⟨_, rfl, ?_⟩
    rw [← HRV.out, ← HPV.out]
    refine FIN'.out _ ?_
    repeat (first | exact grR _ _ | apply grSet | apply grDrew | apply grDrewN)
  | false =>
    rw [place_no ys j hy]
    have EP : Hid (putP ys j n = ys ++ [((j : Int), n)]) := by show _ = _; simp [putP, hy]
    clear hy
    obtain ⟨i0, hi0, hz0, hz1, hz2⟩ := info_parts infoPut
    have I0 : Hid (Try.prog.info? 36 = some i0 ∧ i0.zero = some (.agg #[.int .i64 0, .int .i64 0]) ∧ i0.size = 2 ∧ i0.bytes = 16) := ⟨hi0, hz0, hz1, hz2⟩
    clear hi0 hz0 hz1 hz2
    have HPW : Hid (W.ownsRow B 36 2 (.slice ap ys.length cp) ys.length (flat ys)) := by
      show W.ownsRow _ _ _ _ _ _
      rw [← HPV.out]; exact HP.out.below BW.out
    have OB : Hid (pv.ownBlock = (Value.slice ap ys.length cp).ownBlock) := by show _ = _; rw [HPV.out]
    have hN : Hid (ys.length + 1 ≤ maxLen) := by show _ ≤ _; unfold maxLen; omega
    have hBy : Hid ((ys.length + 1) * 16 ≤ 140737488355328) := by show _ ≤ _; omega
    have hBs : Hid (B ≤ (W.alloc (.cells #[.int .i64 j, .int .i64 n] 36)).heap.size) := by show _ ≤ _; rw [size_new]; omega
    go_wp2_with (at_builtin; refine wpList_append_lies _ rfl (.tmp 22) (.tmp 26) 25 rfl B 36 i0 (.agg #[.int .i64 0, .int .i64 0]) 2 16 Try.underlying25 I0.out.1 I0.out.2.1 I0.out.2.2.1 I0.out.2.2.2 rfl (by decide) (.slice ap ys.length cp) ys.length (flat ys) rfl (HPW.out.alloc _) ⟨W.heap.size, 0, none⟩ 1 1 [.int .i64 j, .int .i64 n] rfl rfl (World.news_of_block (cs := #[.int .i64 j, .int .i64 n]) (t := 36) (fr := (0, 0)) (heap_alloc_new W _)) (by simp [Value.oneCell']) (by decide) hN.out hBy.out hBs.out (W.heap.size + 1) (size_new _ _) ?_)
    intro gg cap w1 hown1 hgrow hat hlt
    have GW : W.grownBy w1 (Value.slice ap ys.length cp).ownBlock := World.grownBy.trans (grAlloc (grR W _) _) hgrow
    have nN : (Value.slice ap ys.length cp).ownBlock ≠ some w.heap.size ∧ (Value.slice ap ys.length cp).ownBlock ≠ some (w.heap.size + 1) := by
      rw [← OB.out]
      exact ⟨fun e => by have := lP.out _ e; omega, fun e => by have := lP.out _ e; omega⟩
    have G0 : w1.heap[w.heap.size]? = some (.cells #[.slice ar xs.length cr, .slice ap ys.length cp, .int .i64 v, .int .i64 k] 27 (0, 0)) := by rw [GW.block _ (by omega) (Ne.symm nN.1)]; exact g0.out
    have G1 : w1.heap[w.heap.size + 1]? = some (.cells #[.slice none 0 0, .slice none 0 0, .int .i64 0, .int .i64 0] 27 (0, 0)) := by rw [GW.block _ (by omega) (Ne.symm nN.2)]; exact g1.out
    have c0 : w1.cell? ⟨w.heap.size, 0, none⟩ = some (.slice ar xs.length cr) := (cell_heap G0 0).trans rfl
    have c1 : w1.cell? ⟨w.heap.size, 1, none⟩ = some (.slice ap ys.length cp) := (cell_heap G0 1).trans rfl
    have c2 : w1.cell? ⟨w.heap.size, 2, none⟩ = some (.int .i64 v) := (cell_heap G0 2).trans rfl
    have c3 : w1.cell? ⟨w.heap.size, 3, none⟩ = some (.int .i64 k) := (cell_heap G0 3).trans rfl
    have y0 : w1.cell? ⟨w.heap.size + 1, 0, none⟩ = some (.slice none 0 0) := (cell_heap G1 0).trans rfl
    have y1 : w1.cell? ⟨w.heap.size + 1, 1, none⟩ = some (.slice none 0 0) := (cell_heap G1 1).trans rfl
    have y2 : w1.cell? ⟨w.heap.size + 1, 2, none⟩ = some (.int .i64 0) := (cell_heap G1 2).trans rfl
    have y3 : w1.cell? ⟨w.heap.size + 1, 3, none⟩ = some (.int .i64 0) := (cell_heap G1 3).trans rfl
    have fx : ∀ o, w1.frozen? ⟨w.heap.size, o, none⟩ = false := fun o => frozen_heap G0 o
    have fy : ∀ o, w1.frozen? ⟨w.heap.size + 1, o, none⟩ = false := fun o => frozen_heap G1 o
    have FIN : Hid (∀ W', (w1.setCell ⟨w.heap.size, 1, none⟩ (.slice (some ⟨gg, 0, none⟩) (ys.length + 1) cap)).grownBy W' (some (w.heap.size + 1)) → OwnP 40 W' B rv xs ∧ OwnP 36 W' B (.slice (some ⟨gg, 0, none⟩) (ys.length + 1) cap) (putP ys j n) ∧ (rv.ownBlock = none ∨ rv.ownBlock ≠ (Value.slice (some ⟨gg, 0, none⟩) (ys.length + 1) cap).ownBlock) ∧ w.grownBy W' pv.ownBlock ∧ (∀ g, (Value.slice (some ⟨gg, 0, none⟩) (ys.length + 1) cap).ownBlock = some g → pv.ownBlock = some g ∨ w.heap.size ≤ g)) := by
      intro W' hk
      have s1 : w1.grownBy (w1.setCell ⟨w.heap.size, 1, none⟩ (.slice (some ⟨gg, 0, none⟩) (ys.length + 1) cap)) (some w.heap.size) := grSet (grR _ _) _
      have hgg : gg ≠ w.heap.size ∧ gg ≠ w.heap.size + 1 ∧ (∀ q, rv.ownBlock = some q → q ≠ gg) := by
        rcases hat with h | h
        · rw [← OB.out] at h
          have := lP.out _ h
          refine ⟨by omega, by omega, fun q hq e => ?_⟩
          rcases HD.out with h' | h'
          · rw [hq] at h'; cases h'
          · exact h' (by rw [h, hq, e])
        · refine ⟨by omega, by omega, fun q hq e => ?_⟩
          have := lR.out _ hq
          omega
      refine ⟨?_, ?_, ?_, ?_, ?_⟩
      · refine (((HR.out.below BW.out).keep GW ?_).keep s1 ?_).keep hk ?_
        · rw [← OB.out]; exact HD.out
        · cases h : rv.ownBlock with
          | none => exact .inl rfl
          | some q => refine .inr fun e => ?_; injection e with e; have := lR.out _ h; omega
        · cases h : rv.ownBlock with
          | none => exact .inl rfl
          | some q => refine .inr fun e => ?_; injection e with e; have := lR.out _ h; omega
      · have o : OwnP 36 w1 B (.slice (some ⟨gg, 0, none⟩) (ys.length + 1) cap) (ys ++ [((j : Int), n)]) := by
          unfold OwnP
          rw [List.length_append, flat_snocP]
          exact hown1
        rw [EP.out]
        refine (o.keep s1 (.inr ?_)).keep hk (.inr ?_)
        · intro e; injection e with e; exact hgg.1 e
        · intro e; injection e with e; exact hgg.2.1 e
      · refine .inr fun e => ?_
        exact hgg.2.2 gg e rfl
      · rw [OB.out]
        exact grNew (grNew ((grBelow BW.out).trans GW) s1 (Nat.le_refl _)) hk (by omega)
      · intro g e
        have e' : gg = g := Option.some.inj e
        subst e'
        rcases hat with h | h
        · exact .inl (by rw [OB.out]; exact h)
        · exact .inr (by omega)
    clear hown1 hgrow hat hlt GW nN G0 G1
    go_wp2
    refine bodyPost_ret (v := .agg #[.slice ar xs.length cr, .slice (some ⟨gg, 0, none⟩) (ys.length + 1) cap, .int .i64 v, .int .i64 k]) (by simp [results, Try.results160, go_sem, y0, y1, y2, y3]) rfl ⟨_, rfl, ?_⟩
    rw [← HRV.out, ← HPV.out]
    refine FIN.out _ ?_
    repeat (first | exact grR _ _ | apply grSet | apply grDrew | apply grDrewN)
end Go.Proofs.Ytgcencilgpilaaa.Own

namespace Go.Proofs.Ytgcencilgpilaaa.Own
open Go.RowKit

/-- A list that a call made: from block B on, or empty. -/
def OwnB (w : World) (B : Nat) (a : Option Addr) (xs : List (Int × Int)) : Prop := xs = [] ∨ ∃ g, a = some ⟨g, 0, none⟩ ∧ B ≤ g ∧ BoxAt w g 0 xs ∧ (∀ o, w.frozen? ⟨g, o, none⟩ = false)
theorem OwnB.sl {w : World} {B : Nat} {a : Option Addr} {xs : List (Int × Int)} (h : OwnB w B a xs) : Sl w a xs := by
  rcases h with h | ⟨g, rfl, _, h, _⟩
  · exact .inl h
  · exact .inr ⟨g, 0, rfl, h⟩
theorem OwnB.below {w w' : World} {B : Nat} {a : Option Addr} {xs : List (Int × Int)} (h : OwnB w B a xs) (hb : Below w.heap.size w w') : OwnB w' B a xs := by
  rcases h with h | ⟨g, rfl, hB, h, hf⟩
  · exact .inl h
  · exact .inr ⟨g, rfl, hB, h.below hb, fun o => by rw [hb.frozen (p := ⟨g, o, none⟩) h.1]; exact hf o⟩
theorem OwnB.weaken {w : World} {B B' : Nat} {a : Option Addr} {xs : List (Int × Int)} (h : OwnB w B a xs) (hb : B' ≤ B) : OwnB w B' a xs := by
  rcases h with h | ⟨g, rfl, hB, h, hf⟩
  · exact .inl h
  · exact .inr ⟨g, rfl, Nat.le_trans hb hB, h, hf⟩
/-- Nothing but the list's own block has turned. -/
def OnlyB (a : Option Addr) (xs : List (Int × Int)) (w w' : World) : Prop := (xs = [] ∧ w' = w) ∨ ∃ g, xs ≠ [] ∧ a = some ⟨g, 0, none⟩ ∧ Only g w w'
theorem OnlyB.below {a : Option Addr} {xs : List (Int × Int)} {w w' : World} {B : Nat} (h : OnlyB a xs w w') (hB : ∀ g, xs ≠ [] → a = some ⟨g, 0, none⟩ → B ≤ g) : Below B w w' := by
  rcases h with ⟨_, rfl⟩ | ⟨g, hne, e, h⟩
  · exact Below.refl _ _
  · exact h.below (hB g hne e)
theorem OwnB.from {w : World} {B : Nat} {a : Option Addr} {xs : List (Int × Int)} (h : OwnB w B a xs) : ∀ g, xs ≠ [] → a = some ⟨g, 0, none⟩ → B ≤ g := by
  intro g hne e
  rcases h with h | ⟨g', e', hB, _⟩
  · exact absurd h hne
  · rw [e] at e'; injection e' with e'; injection e' with e1; omega
/-- Two lists that lie in different blocks. -/
def Apart (a b : Option Addr) (xs ys : List (Int × Int)) : Prop := xs = [] ∨ ys = [] ∨ ∀ g g', a = some ⟨g, 0, none⟩ → b = some ⟨g', 0, none⟩ → g ≠ g'
theorem OwnB.onlyB {w w' : World} {B : Nat} {a b : Option Addr} {xs ys : List (Int × Int)} (h : OwnB w B a xs) (ho : OnlyB b ys w w') (hap : Apart a b xs ys) : OwnB w' B a xs := by
  rcases ho with ⟨_, rfl⟩ | ⟨g, hne, rfl, ho⟩
  · exact h
  · rcases h with h | ⟨g', rfl, hB, h, hf⟩
    · exact .inl h
    · rcases hap with h0 | h0 | hap
      · exact .inl h0
      · exact absurd h0 hne
      · have hgg := hap g' g rfl rfl
        refine .inr ⟨g', rfl, hB, h.only ho hgg, fun o => ?_⟩
        rw [World.frozen?_of_block (w := w) (a := ⟨g', o, none⟩) (ho.block g' hgg)]; exact hf o
theorem Sl.onlyB {w w' : World} {a b : Option Addr} {xs ys : List (Int × Int)} {B : Nat} (h : Sl w a xs) (ho : OnlyB b ys w w') (hb : ∀ g, ys ≠ [] → b = some ⟨g, 0, none⟩ → B ≤ g) (ha : ∀ x, a = some x → x.block < B) : Sl w' a xs := by
  rcases ho with ⟨_, rfl⟩ | ⟨g, hne, rfl, ho⟩
  · exact h
  · rcases h with h | ⟨b, off, rfl, h⟩
    · exact .inl h
    · exact .inr ⟨b, off, rfl, h.only ho (by have := hb g hne rfl; have := ha _ rfl; simp at this; omega)⟩
theorem marks_nil (k : Int) : marks k 0 = [] := rfl
theorem nil_of {xs : List (Int × Int)} (h : xs.length = 0) : xs = [] := List.eq_nil_of_length_eq_zero h
end Go.Proofs.Ytgcencilgpilaaa.Own

namespace Go.Proofs.Ytgcencilgpilaaa.Own
open Go.RowKit

structure Turned (L : List Nat) (w w' : World) : Prop where
  os : w'.os = w.os
  tape : w'.tape = w.tape
  output : w'.output = w.output
  size : w.heap.size ≤ w'.heap.size
  block : ∀ k, k < w.heap.size → k ∉ L → w'.heap[k]? = w.heap[k]?

theorem Turned.refl (L : List Nat) (w : World) : Turned L w w := ⟨rfl, rfl, rfl, Nat.le_refl _, fun _ _ _ => rfl⟩
theorem Turned.trans {L : List Nat} {a b c : World} (h : Turned L a b) (k : Turned L b c) : Turned L a c :=
  ⟨k.os.trans h.os, k.tape.trans h.tape, k.output.trans h.output, Nat.le_trans h.size k.size, fun i hi hn => (k.block i (Nat.lt_of_lt_of_le hi h.size) hn).trans (h.block i hi hn)⟩
theorem Turned.ofBelow {L : List Nat} {w w' : World} (h : Below w.heap.size w w') : Turned L w w' := ⟨h.os, h.tape, h.output, h.size, fun k hk _ => h.block k hk⟩
theorem Turned.ofOnly {L : List Nat} {g : Nat} {w w' : World} (h : Only g w w') (hg : g ∈ L) : Turned L w w' :=
  ⟨h.os, h.tape, h.output, Nat.le_of_eq h.size.symm, fun k _ hn => h.block k (fun e => hn (e ▸ hg))⟩
theorem Turned.ofOnlyB {L : List Nat} {a : Option Addr} {xs : List (Int × Int)} {w w' : World} (h : OnlyB a xs w w') (hg : ∀ g, a = some ⟨g, 0, none⟩ → g ∈ L) : Turned L w w' := by
  rcases h with ⟨_, rfl⟩ | ⟨g, _, e, h⟩
  · exact Turned.refl _ _
  · exact Turned.ofOnly h (hg g e)
theorem Turned.mono {L L' : List Nat} {w w' : World} (h : Turned L w w') (hs : ∀ x, x ∈ L → x ∈ L') : Turned L' w w' :=
  ⟨h.os, h.tape, h.output, h.size, fun k hk hn => h.block k hk (fun e => hn (hs _ e))⟩
theorem Turned.below {L : List Nat} {w w' : World} {B : Nat} (h : Turned L w w') (hL : ∀ x, x ∈ L → B ≤ x) (hB : B ≤ w.heap.size) : Below B w w' :=
  ⟨h.os, h.tape, h.output, h.size, fun k hk => h.block k (by omega) (fun e => by have := hL _ e; omega)⟩
theorem BoxAt.turned {L : List Nat} {w w' : World} {b off : Nat} {xs : List (Int × Int)} (h : BoxAt w b off xs) (ht : Turned L w w') (hb : b ∉ L) : BoxAt w' b off xs := by
  have e : ∀ o, w'.cell? ⟨b, o, none⟩ = w.cell? ⟨b, o, none⟩ := fun o => World.cell?_of_block (w := w) (a := ⟨b, o, none⟩) (ht.block b h.1 hb)
  exact ⟨Nat.lt_of_lt_of_le h.1 ht.size, fun i hi => by rw [e, e]; exact h.2 i hi⟩
theorem Sl.turned {L : List Nat} {w w' : World} {a : Option Addr} {xs : List (Int × Int)} (h : Sl w a xs) (ht : Turned L w w') (hb : ∀ x, a = some x → x.block ∉ L) : Sl w' a xs := by
  rcases h with h | ⟨b, off, rfl, h⟩
  · exact .inl h
  · exact .inr ⟨b, off, rfl, h.turned ht (hb _ rfl)⟩
theorem OwnB.turned {L : List Nat} {w w' : World} {B : Nat} {a : Option Addr} {xs : List (Int × Int)} (h : OwnB w B a xs) (ht : Turned L w w') (hb : ∀ g, a = some ⟨g, 0, none⟩ → g ∉ L) : OwnB w' B a xs := by
  rcases h with h | ⟨g, rfl, hB, h, hf⟩
  · exact .inl h
  · exact .inr ⟨g, rfl, hB, h.turned ht (hb g rfl), fun o => by rw [World.frozen?_of_block (w := w) (a := ⟨g, o, none⟩) (ht.block g h.1 (hb g rfl))]; exact hf o⟩
theorem C4.turned {L : List Nat} {w w' : World} {b : Nat} {x0 x1 x2 x3 : Value} (h : C4 w b x0 x1 x2 x3) (ht : Turned L w w') (hb : b ∉ L) : C4 w' b x0 x1 x2 x3 := by
  have e : ∀ o, w'.cell? ⟨b, o, none⟩ = w.cell? ⟨b, o, none⟩ := fun o => World.cell?_of_block (w := w) (a := ⟨b, o, none⟩) (ht.block b h.1 hb)
  refine ⟨Nat.lt_of_lt_of_le h.1 ht.size, ?_⟩
  rw [e, e, e, e]; exact h.2
end Go.Proofs.Ytgcencilgpilaaa.Own

namespace Go.Proofs.Ytgcencilgpilaaa.Own
open Go.RowKit
set_option linter.unusedVariables false

theorem Turned.set {L : List Nat} {a b : World} {p : Addr} (h : Turned L a b) (hp : p.block ∈ L) (v : Value) : Turned L a (b.setCell p v) :=
  ⟨h.os, h.tape, h.output, by simpa [World.setCell] using h.size, fun i hi hn => by rw [Below.heap_setCell _ _ _ _ (fun e => hn (by rw [e]; exact hp))]; exact h.block i hi hn⟩
theorem Turned.alloc {L : List Nat} {a b : World} (h : Turned L a b) (o : Obj) : Turned L a (b.alloc o) := h.trans (Turned.ofBelow (below_new _ _))
theorem Turned.drew {L : List Nat} {a b : World} (h : Turned L a b) : Turned L a b.drew := h.trans ⟨rfl, rfl, rfl, Nat.le_refl _, fun _ _ _ => rfl⟩
theorem Turned.drewN {L : List Nat} {a b : World} (h : Turned L a b) (n : Nat) : Turned L a (b.drewN n) := h.trans ⟨rfl, rfl, rfl, Nat.le_refl _, fun _ _ _ => rfl⟩
theorem Turned.ofGrown {L : List Nat} {w w' : World} {row : Option Nat} (h : w.grownBy w' row) (hr : ∀ g, row = some g → g ∈ L) : Turned L w w' :=
  ⟨h.os, h.tape, h.output, h.size, fun k hk hn => h.block k hk (fun e => hn (hr k e.symm))⟩
theorem OwnP.turned {L : List Nat} {t : TypeId} {w w' : World} {B : Nat} {v : Value} {xs : List P2} (h : OwnP t w B v xs) (ht : Turned L w w') (hv : ∀ g, v.ownBlock = some g → g ∉ L) : OwnP t w' B v xs := by
  obtain ⟨h1, h2⟩ := h
  refine ⟨h1, ?_⟩
  rcases h2 with h2 | ⟨g, cap, cur, e, hg, hh, r⟩
  · exact .inl h2
  · exact .inr ⟨g, cap, cur, e, hg, by rw [ht.block g (Array.getElem?_eq_some_iff.1 hh).1 (hv g (by rw [e]; rfl))]; exact hh, r⟩
theorem IntAt.turned {L : List Nat} {w w' : World} {b off : Nat} {xs : List Int} (h : IntAt w b off xs) (ht : Turned L w w') (hb : b ∉ L) : IntAt w' b off xs :=
  h.congr (Nat.lt_of_lt_of_le h.1 ht.size) (fun o => World.cell?_of_block (w := w) (a := ⟨b, o, none⟩) (ht.block b h.1 hb))
theorem IntAt.set0 {w : World} {b : Nat} {xs : List Int} (h : IntAt w b 0 xs) (i : Nat) (hi : i < xs.length) (n : Int) : IntAt (w.setCell ⟨b, i, none⟩ (.int .i64 n)) b 0 (xs.set i n) := by
  refine ⟨by simpa [World.setCell] using h.1, fun j hj => ?_⟩
  rw [List.length_set] at hj
  have hx := h.2 j hj
  rw [Nat.zero_add] at hx ⊢
  by_cases e : i = j
  · subst e
    rw [setCell_cell_same _ _ _ _ _ hx]
    simp [List.getD, hi]
  · rw [setCell_cell_other _ _ _ _ _ e, hx]
    simp [List.getD, e]

/-- Of the blocks below B none but rg has turned. -/
structure Kp (B rg : Nat) (w w' : World) : Prop where
  os : w'.os = w.os
  tape : w'.tape = w.tape
  output : w'.output = w.output
  size : w.heap.size ≤ w'.heap.size
  block : ∀ k, k < B → k ≠ rg → w'.heap[k]? = w.heap[k]?
theorem Kp.refl (B rg : Nat) (w : World) : Kp B rg w w := ⟨rfl, rfl, rfl, Nat.le_refl _, fun _ _ _ => rfl⟩
theorem Kp.trans {B rg : Nat} {a b c : World} (h : Kp B rg a b) (k : Kp B rg b c) : Kp B rg a c :=
  ⟨k.os.trans h.os, k.tape.trans h.tape, k.output.trans h.output, Nat.le_trans h.size k.size, fun i hi hn => (k.block i hi hn).trans (h.block i hi hn)⟩
theorem Turned.kp {L : List Nat} {w w' : World} {B rg : Nat} (h : Turned L w w') (hB : B ≤ w.heap.size) (hL : ∀ x, x ∈ L → B ≤ x ∨ x = rg) : Kp B rg w w' :=
  ⟨h.os, h.tape, h.output, h.size, fun k hk hn => h.block k (by omega) (fun e => by rcases hL k e with h | h <;> omega)⟩

/-- A run under way: its registers in block rg, what it looked into and what it would put in rows of its own from B on. -/
structure Held (B rg : Nat) (w : World) (rv pv : Value) (s : RunSt) : Prop where
  regs : IntAt w rg 0 s.regs
  four : s.regs.length = 4
  free : ∀ o, w.frozen? ⟨rg, o, none⟩ = false
  reads : OwnP 40 w B rv s.reads
  puts : OwnP 36 w B pv s.puts
  apart : rv.ownBlock = none ∨ rv.ownBlock ≠ pv.ownBlock

theorem Held.turned {L : List Nat} {B rg : Nat} {w w' : World} {rv pv : Value} {s : RunSt} (h : Held B rg w rv pv s) (ht : Turned L w w') (hg : rg ∉ L) (hr : ∀ g, rv.ownBlock = some g → g ∉ L) (hp : ∀ g, pv.ownBlock = some g → g ∉ L) : Held B rg w' rv pv s :=
  ⟨h.regs.turned ht hg, h.four, fun o => by rw [World.frozen?_of_block (w := w) (a := ⟨rg, o, none⟩) (ht.block rg h.regs.1 hg)]; exact h.free o, h.reads.turned ht hr, h.puts.turned ht hp, h.apart⟩
theorem Held.setR {B rg : Nat} {w : World} {rv pv : Value} {s : RunSt} (h : Held B rg w rv pv s) (hg : rg < B) (a : Nat) (ha : a < 4) (n : Int) : Held B rg (w.setCell ⟨rg, a, none⟩ (.int .i64 n)) rv pv (setReg s a n) := by
  have e : Turned [rg] w (w.setCell ⟨rg, a, none⟩ (.int .i64 n)) := (Turned.refl _ _).set (by simp) _
  refine ⟨h.regs.set0 a (by rw [h.four]; exact ha) n, by simp [setReg, h.four], fun o => by simpa using h.free o, h.reads.turned e (fun g e => ?_), h.puts.turned e (fun g e => ?_), h.apart⟩
  · have := (World.ownsRow.lt h.reads g e).1; simp; omega
  · have := (World.ownsRow.lt h.puts g e).1; simp; omega
theorem Held.code {B rg : Nat} {w : World} {rv pv : Value} {s : RunSt} (h : Held B rg w rv pv s) (c : Int) : Held B rg w rv pv { s with code := c } := ⟨h.regs, h.four, h.free, h.reads, h.puts, h.apart⟩
end Go.Proofs.Ytgcencilgpilaaa.Own

namespace Go.Proofs.Ytgcencilgpilaaa.Own
open Go.RowKit
set_option linter.unusedVariables false
set_option linter.unusedSimpArgs false

set_option maxHeartbeats 400000 in
theorem isNumberC (n : Int) (w : World) : Calls Try.prog 118 #[.int .i64 n] w fun e w' => e = .returned (.bool (numOk n)) ∧ w' = w := by
  have e : Hid (numOk n = (decide (-1000000 ≤ n) && decide (n ≤ 1000000))) := rfl
  by_cases h1 : -1000000 ≤ n
  · by_cases h2 : n ≤ 1000000
    all_goals
      go_enter Try.func118, Try.ntmps118
      go_wp2
      go_ret
      exact ⟨ret_bool (by rw [e.out]; simp [h1, h2]), rfl⟩
  · have h1' : decide (-1000000 ≤ n) = false := by simpa using h1
    go_enter Try.func118, Try.ntmps118
    go_wp2
    go_ret
    exact ⟨ret_bool (by rw [e.out, h1']; rfl), rfl⟩

set_option maxHeartbeats 400000 in
theorem firstYes (b off j : Nat) (w : World) (hj : j < 4) (hc : w.cell? ⟨b, off + j, none⟩ = some (.bool false)) (hf : w.frozen? ⟨b, off + j, none⟩ = false) :
    Calls Try.prog 119 #[.pointer (some ⟨b, off, none⟩), .int .i64 j] w fun e w' => e = .returned (.bool true) ∧ w' = w.setCell ⟨b, off + j, none⟩ (.bool true) := by
  have h1 : ¬ (4 : Int) ≤ (j : Int) := by omega
  go_enter Try.func119, Try.ntmps119
  go_wp2
  go_ret
  exact ⟨rfl, rfl⟩

set_option maxHeartbeats 400000 in
theorem firstTwice (b off j : Nat) (w : World) (hj : j < 4) (hc : w.cell? ⟨b, off + j, none⟩ = some (.bool true)) :
    Calls Try.prog 119 #[.pointer (some ⟨b, off, none⟩), .int .i64 j] w fun e w' => e = .returned (.bool false) ∧ w' = w := by
  have h1 : ¬ (4 : Int) ≤ (j : Int) := by omega
  go_enter Try.func119, Try.ntmps119
  go_wp2
  go_ret
  exact ⟨rfl, rfl⟩

set_option maxHeartbeats 400000 in
theorem firstNone (p : Option Addr) (n : Int) (w : World) (h : regOk n = false) :
    Calls Try.prog 119 #[.pointer p, .int .i64 n] w fun e w' => e = .returned (.bool false) ∧ w' = w := by
  by_cases h0 : n < 0
  · clear h
    go_enter Try.func119, Try.ntmps119
    go_wp2
    go_ret
    exact ⟨rfl, rfl⟩
  · have h4 : 4 ≤ n := by
      simp [regOk] at h
      omega
    clear h
    go_enter Try.func119, Try.ntmps119
    go_wp2
    go_ret
    exact ⟨rfl, rfl⟩

/-- Marks of boxes in memory. -/
def MarksAt (w : World) (b off : Nat) (m : Nat → Bool) : Prop := b < w.heap.size ∧ (∀ j, j < 4 → w.cell? ⟨b, off + j, none⟩ = some (.bool (m j))) ∧ (∀ o, w.frozen? ⟨b, o, none⟩ = false)

theorem MarksAt.keep {w w' : World} {b off : Nat} {m : Nat → Bool} (h : MarksAt w b off m) (hs : w.heap.size ≤ w'.heap.size) (hb : w'.heap[b]? = w.heap[b]?) : MarksAt w' b off m :=
  ⟨Nat.lt_of_lt_of_le h.1 hs, fun j hj => by rw [World.cell?_of_block (w := w) (a := ⟨b, off + j, none⟩) hb]; exact h.2.1 j hj, fun o => by rw [World.frozen?_of_block (w := w) (a := ⟨b, o, none⟩) hb]; exact h.2.2 o⟩
theorem MarksAt.alloc {w : World} {b off : Nat} {m : Nat → Bool} (h : MarksAt w b off m) (o : Obj) : MarksAt (w.alloc o) b off m :=
  h.keep (by rw [size_new]; omega) (heap_old w o b h.1)
theorem MarksAt.congr {w : World} {b off : Nat} {m m' : Nat → Bool} (h : MarksAt w b off m) (e : ∀ j, j < 4 → m j = m' j) : MarksAt w b off m' :=
  ⟨h.1, fun j hj => by rw [← e j hj]; exact h.2.1 j hj, h.2.2⟩
theorem MarksAt.set {w : World} {b off : Nat} {m : Nat → Bool} (h : MarksAt w b off m) (i : Nat) (hi : i < 4) : MarksAt (w.setCell ⟨b, off + i, none⟩ (.bool true)) b off (fun j => m j || decide (i = j)) := by
  refine ⟨by simpa [World.setCell] using h.1, fun j hj => ?_, fun o => by simpa using h.2.2 o⟩
  by_cases e : i = j
  · subst e
    rw [setCell_cell_same _ _ _ _ _ (h.2.1 i hi)]; simp
  · rw [setCell_cell_other _ _ _ _ _ (by omega), h.2.1 j hj]; simp [e]

theorem marks_new (w : World) (t : TypeId) : MarksAt (w.alloc (.cells #[.bool false, .bool false, .bool false, .bool false] t)) w.heap.size 0 (fun _ => false) := by
  refine ⟨by rw [size_new]; omega, fun j hj => ?_, fun o => frozen_heap (heap_new _ _) o⟩
  rw [cell_heap (heap_new _ _)]
  match j, hj with
  | 0, _ | 1, _ | 2, _ | 3, _ => rfl

theorem regOk_nat {n : Int} (h : regOk n = true) : ∃ j : Nat, j < 4 ∧ n = j := by
  simp [regOk] at h
  exact ⟨n.toNat, by omega, by omega⟩
theorem regOk_of (j : Nat) (h : j < 4) : regOk (j : Int) = true := by
  simp [regOk]; omega

theorem seen_step {xs : List P2} {k j : Nat} (h : k < xs.length) (hj : (xs.getD k (0, 0)).1 = (j : Int)) (i : Nat) : seen xs (k + 1) i = (seen xs k i || decide (j = i)) := by
  rw [seen_succ _ _ _ h, hj]
  congr 1
  rw [Bool.eq_iff_iff]; simp only [beq_iff_eq, decide_eq_true_eq]; omega

set_option maxRecDepth 100000 in
set_option maxHeartbeats 1000000 in
theorem readsOkC (a : Option Addr) (c : Nat) (xs : List P2) (w : World) (h : Sl w a xs) (hn : xs.length ≤ 2 ^ 40) :
    Calls Try.prog 69 #[.slice a xs.length c] w fun e w' => e = .returned (.bool (okAll verOk xs)) ∧ Below w.heap.size w w' := by
  have H1 : Hid (Sl w a xs) := h
  clear h
  go_enter Try.func69, Try.ntmps69
  go_wp2
  go_loopw [8] (fun i wr => ∃ k : Nat, k ≤ xs.length ∧ i = .int .i64 k ∧ Hid (∀ i, i < k → okAt verOk xs i = true) ∧ MarksAt wr w.heap.size 0 (seen xs k) ∧ Below w.heap.size w wr) (fun i _ => xs.length - (intOf i).toNat)
  case atStart => exact ⟨0, Nat.zero_le _, rfl, fun i hi => by omega, (marks_new w _).congr fun j _ => (seen_zero xs j).symm, (Below.refl _ _).alloc (Nat.le_refl _) _⟩
  case round =>
    obtain ⟨k, hk, rfl, hA, hM, hB⟩ := hrel
    by_cases hlt : k < xs.length
    · rcases H1.out with h | ⟨b1, o1, rfl, h1⟩
      · subst h; simp at hlt
      have H1' : Hid (BoxAt w b1 o1 xs) := h1
      clear h1
      obtain ⟨p, hp⟩ : ∃ p, p = xs.getD k (0, 0) := ⟨_, rfl⟩
      obtain ⟨ca, cb⟩ := H1'.out.2 k hlt
      rw [← hB.cell H1'.out.1, ← hp] at ca cb
      have HP : Hid (p = xs.getD k (0, 0)) := hp
      have HB : Hid (Below w.heap.size w wr) := hB
      have HM : Hid (MarksAt wr w.heap.size 0 (seen xs k)) := hM
      clear hp hB hM
      obtain ⟨p1, p2⟩ := p
      have F : Hid (okAt verOk xs k = false → okAll verOk xs = false) := fun t => okAll_false hlt t
      have HBa : ∀ o, Hid (Below w.heap.size w (wr.alloc o)) := fun o => HB.out.alloc HB.out.size _
      cases hr : regOk p1 with
      | false =>
        have F' : Hid (okAll verOk xs = false) := F.out (by unfold okAt; rw [← HP.out]; simp only [hr, Bool.false_and])
        have HR : Hid (regOk p1 = false) := hr
        clear F hr
        go_wp2_with fail
        refine (firstNone _ p1 _ HR.out).mono ?_
        rintro e w1 ⟨rfl, rfl⟩
        go_wp2
        go_ret
        exact ⟨ret_bool F'.out.symm, (HBa _).out⟩
      | true =>
        obtain ⟨j, hj, rfl⟩ := regOk_nat hr
        clear hr
        have HJ : Hid ((xs.getD k (0, 0)).1 = (j : Int)) := by show _ = _; rw [← HP.out]
        have HS : Hid (okAt verOk xs k = (regOk (j : Int) && verOk p2 && !seen xs k j)) := by
          show _ = _
          rw [okAt_seen verOk xs k j HJ.out, ← HP.out]
        cases hs : seen xs k j with
        | true =>
          have F' : Hid (okAll verOk xs = false) := F.out (by rw [HS.out, hs]; simp)
          have hc : Hid (∀ o, (wr.alloc o).cell? ⟨w.heap.size, 0 + j, none⟩ = some (.bool true)) := fun o => by
            have := (HM.out.alloc o).2.1 j hj
            rw [hs] at this; exact this
          clear F hs
          go_wp2_with fail
          refine (firstTwice w.heap.size 0 j _ hj (hc.out _)).mono ?_
          rintro e w1 ⟨rfl, rfl⟩
          go_wp2
          go_ret
          exact ⟨ret_bool F'.out.symm, (HBa _).out⟩
        | false =>
          have hc : Hid (∀ o, (wr.alloc o).cell? ⟨w.heap.size, 0 + j, none⟩ = some (.bool false) ∧ (wr.alloc o).frozen? ⟨w.heap.size, 0 + j, none⟩ = false) := fun o => by
            have := (HM.out.alloc o).2.1 j hj
            rw [hs] at this; exact ⟨this, (HM.out.alloc o).2.2 _⟩
          have HS' : Hid (seen xs k j = false) := hs
          clear hs
          have AF : Hid (∀ w1, w1 = (wr.alloc (.cells #[.int .i64 (j : Int), .int .i64 p2] 40)).setCell ⟨w.heap.size, 0 + j, none⟩ (.bool true) → w1.cell? ⟨wr.heap.size, 1, none⟩ = some (.int .i64 p2) ∧ Hid (MarksAt w1 w.heap.size 0 (seen xs (k + 1))) ∧ Hid (Below w.heap.size w w1)) := by
            intro w1 hw
            have hsz : w.heap.size < wr.heap.size := HM.out.1
            refine ⟨?_, ?_, ?_⟩
            · rw [hw, World.cell?_setCell_other _ _ _ _ (by intro e; injection e with e1; omega), cell_heap (heap_new _ _)]; rfl
            · rw [hw]; exact ((HM.out.alloc _).set j hj).congr fun i hi => (seen_step hlt HJ.out i).symm
            · rw [hw]; exact (HBa _).out.setCell (Nat.le_refl _) _
          by_cases t1 : p2 < 0
          · have F' : Hid (okAll verOk xs = false) := F.out (by rw [HS.out]; simp [verOk]; omega)
            clear F
            go_wp2_with fail
            refine (firstYes w.heap.size 0 j _ hj (hc.out _).1 (hc.out _).2).mono ?_
            rintro e w1 ⟨rfl, hw⟩
            obtain ⟨c1, M1, B1⟩ := AF.out w1 hw
            clear hw AF
            go_wp2
            go_ret
            exact ⟨ret_bool F'.out.symm, B1.out⟩
          · by_cases t2 : 1000000 < p2
            · have F' : Hid (okAll verOk xs = false) := F.out (by rw [HS.out]; simp [verOk]; omega)
              clear F
              go_wp2_with fail
              refine (firstYes w.heap.size 0 j _ hj (hc.out _).1 (hc.out _).2).mono ?_
              rintro e w1 ⟨rfl, hw⟩
              obtain ⟨c1, M1, B1⟩ := AF.out w1 hw
              clear hw AF
              go_wp2
              go_ret
              exact ⟨ret_bool F'.out.symm, B1.out⟩
            · have N : Hid (∀ i, i < k + 1 → okAt verOk xs i = true) := by
                intro i hi
                by_cases e : i = k
                · subst e
                  rw [HS.out, HS'.out, regOk_of j hj]; simp [verOk]; omega
                · exact hA.out i (by omega)
              clear F
              go_wp2_with fail
              refine (firstYes w.heap.size 0 j _ hj (hc.out _).1 (hc.out _).2).mono ?_
              rintro e w1 ⟨rfl, hw⟩
              obtain ⟨c1, M1, B1⟩ := AF.out w1 hw
              clear hw AF
              go_wp2
              go_roundw
              case rel => exact ⟨k + 1, by omega, by go_num, N, M1.out, B1.out⟩
              case measure => simp [intOf]; omega
    · go_wp2
      go_ret
      have : k = xs.length := by omega
      subst this
      exact ⟨ret_bool (okAll_iff.2 hA.out).symm, hB⟩
end Go.Proofs.Ytgcencilgpilaaa.Own

namespace Go.Proofs.Ytgcencilgpilaaa.Own
open Go.RowKit

theorem four {xs : List (Int × Int)} (h : xs.length = 4) : [((fromD xs 0 0).1, (fromD xs 0 0).2), ((fromD xs 0 1).1, (fromD xs 0 1).2), ((fromD xs 0 2).1, (fromD xs 0 2).2), ((fromD xs 0 3).1, (fromD xs 0 3).2)] = xs := by
  match xs, h with
  | [a, b, c, d], _ => rfl

set_option maxHeartbeats 1000000 in
theorem implOk (a : Option Addr) (c : Nat) (xs : List (Int × Int)) (w : World) (h : Sl w a xs) (hc : xs.length ≤ c) :
    Calls Try.prog 21 #[.slice a xs.length c] w fun e w' => e = .returned (.bool (boxOk xs)) ∧ Below w.heap.size w w' := by
  have E : Hid (boxOk xs = (xs.length == 4 && xs.all boxOk1)) := rfl
  by_cases hl : xs.length = 4
  · have hl' : ((xs.length : Int) == 4) = true := by simp [hl]
    have HL : Hid (xs.length = 4) := hl
    clear hl
    go_enter Try.func21, Try.ntmps21
    go_wp2_with fail
    refine (boxesFrom a c xs 0 w h hc (Nat.zero_le _)).mono ?_
    rintro e w1 ⟨rfl, hb1⟩
    go_wp2_with fail
    refine (arrOk _ _ _ _ _ _ _ _ _).mono ?_
    rintro e w2 ⟨rfl, hb2⟩
    rw [four HL.out]
    have B2 : Hid (Below w.heap.size w w2) := hb1.trans (hb2.mono hb1.size)
    clear hb1 hb2
    go_wp2
    go_ret
    refine ⟨ret_bool ?_, B2.out⟩
    rw [E.out, HL.out]; rfl
  · have hl' : ((xs.length : Int) == 4) = false := by simp; omega
    go_enter Try.func21, Try.ntmps21
    go_wp2
    go_ret
    refine ⟨ret_bool ?_, Below.refl _ _⟩
    rw [E.out]; simp [hl]
end Go.Proofs.Ytgcencilgpilaaa.Own

namespace Go.Proofs.Ytgcencilgpilaaa.Own
open Go.RowKit
set_option linter.unusedVariables false
set_option linter.unusedSimpArgs false

set_option maxRecDepth 100000 in
set_option maxHeartbeats 1000000 in
theorem putsOkC (a : Option Addr) (c : Nat) (xs : List P2) (w : World) (h : Sl w a xs) (hn : xs.length ≤ 2 ^ 40) :
    Calls Try.prog 70 #[.slice a xs.length c] w fun e w' => e = .returned (.bool (okAll numOk xs)) ∧ Below w.heap.size w w' := by
  have H1 : Hid (Sl w a xs) := h
  clear h
  go_enter Try.func70, Try.ntmps70
  go_wp2
  go_loopw [8] (fun i wr => ∃ k : Nat, k ≤ xs.length ∧ i = .int .i64 k ∧ Hid (∀ i, i < k → okAt numOk xs i = true) ∧ MarksAt wr w.heap.size 0 (seen xs k) ∧ Below w.heap.size w wr) (fun i _ => xs.length - (intOf i).toNat)
  case atStart => exact ⟨0, Nat.zero_le _, rfl, fun i hi => by omega, (marks_new w _).congr fun j _ => (seen_zero xs j).symm, (Below.refl _ _).alloc (Nat.le_refl _) _⟩
  case round =>
    obtain ⟨k, hk, rfl, hA, hM, hB⟩ := hrel
    by_cases hlt : k < xs.length
    · rcases H1.out with h | ⟨b1, o1, rfl, h1⟩
      · subst h; simp at hlt
      have H1' : Hid (BoxAt w b1 o1 xs) := h1
      clear h1
      obtain ⟨p, hp⟩ : ∃ p, p = xs.getD k (0, 0) := ⟨_, rfl⟩
      obtain ⟨ca, cb⟩ := H1'.out.2 k hlt
      rw [← hB.cell H1'.out.1, ← hp] at ca cb
      have HP : Hid (p = xs.getD k (0, 0)) := hp
      have HB : Hid (Below w.heap.size w wr) := hB
      have HM : Hid (MarksAt wr w.heap.size 0 (seen xs k)) := hM
      clear hp hB hM
      obtain ⟨p1, p2⟩ := p
      have F : Hid (okAt numOk xs k = false → okAll numOk xs = false) := fun t => okAll_false hlt t
      have HBa : ∀ o, Hid (Below w.heap.size w (wr.alloc o)) := fun o => HB.out.alloc HB.out.size _
      cases hr : regOk p1 with
      | false =>
        have F' : Hid (okAll numOk xs = false) := F.out (by unfold okAt; rw [← HP.out]; simp only [hr, Bool.false_and])
        have HR : Hid (regOk p1 = false) := hr
        clear F hr
        go_wp2_with fail
        refine (firstNone _ p1 _ HR.out).mono ?_
        rintro e w1 ⟨rfl, rfl⟩
        go_wp2
        go_ret
        exact ⟨ret_bool F'.out.symm, (HBa _).out⟩
      | true =>
        obtain ⟨j, hj, rfl⟩ := regOk_nat hr
        clear hr
        have HJ : Hid ((xs.getD k (0, 0)).1 = (j : Int)) := by show _ = _; rw [← HP.out]
        have HS : Hid (okAt numOk xs k = (regOk (j : Int) && numOk p2 && !seen xs k j)) := by
          show _ = _
          rw [okAt_seen numOk xs k j HJ.out, ← HP.out]
        cases hs : seen xs k j with
        | true =>
          have F' : Hid (okAll numOk xs = false) := F.out (by rw [HS.out, hs]; simp)
          have hc : Hid (∀ o, (wr.alloc o).cell? ⟨w.heap.size, 0 + j, none⟩ = some (.bool true)) := fun o => by
            have := (HM.out.alloc o).2.1 j hj
            rw [hs] at this; exact this
          clear F hs
          go_wp2_with fail
          refine (firstTwice w.heap.size 0 j _ hj (hc.out _)).mono ?_
          rintro e w1 ⟨rfl, rfl⟩
          go_wp2
          go_ret
          exact ⟨ret_bool F'.out.symm, (HBa _).out⟩
        | false =>
          have hc : Hid (∀ o, (wr.alloc o).cell? ⟨w.heap.size, 0 + j, none⟩ = some (.bool false) ∧ (wr.alloc o).frozen? ⟨w.heap.size, 0 + j, none⟩ = false) := fun o => by
            have := (HM.out.alloc o).2.1 j hj
            rw [hs] at this; exact ⟨this, (HM.out.alloc o).2.2 _⟩
          have HS' : Hid (seen xs k j = false) := hs
          clear hs
          have AF : Hid (∀ w1, w1 = (wr.alloc (.cells #[.int .i64 (j : Int), .int .i64 p2] 36)).setCell ⟨w.heap.size, 0 + j, none⟩ (.bool true) → w1.cell? ⟨wr.heap.size, 1, none⟩ = some (.int .i64 p2) ∧ Hid (MarksAt w1 w.heap.size 0 (seen xs (k + 1))) ∧ Hid (Below w.heap.size w w1)) := by
            intro w1 hw
            have hsz : w.heap.size < wr.heap.size := HM.out.1
            refine ⟨?_, ?_, ?_⟩
            · rw [hw, World.cell?_setCell_other _ _ _ _ (by intro e; injection e with e1; omega), cell_heap (heap_new _ _)]; rfl
            · rw [hw]; exact ((HM.out.alloc _).set j hj).congr fun i hi => (seen_step hlt HJ.out i).symm
            · rw [hw]; exact (HBa _).out.setCell (Nat.le_refl _) _
          cases t1 : numOk p2 with
          | false =>
            have F' : Hid (okAll numOk xs = false) := F.out (by rw [HS.out, t1]; simp)
            clear F
            go_wp2_with fail
            refine (firstYes w.heap.size 0 j _ hj (hc.out _).1 (hc.out _).2).mono ?_
            rintro e w1 ⟨rfl, hw⟩
            obtain ⟨c1, M1, B1⟩ := AF.out w1 hw
            clear hw AF
            go_wp2_with fail
            refine (isNumberC p2 _).mono ?_
            rintro e w2 ⟨rfl, rfl⟩
            rw [t1]
            go_wp2
            go_ret
            exact ⟨ret_bool F'.out.symm, B1.out⟩
          | true =>
            have N : Hid (∀ i, i < k + 1 → okAt numOk xs i = true) := by
              intro i hi
              by_cases e : i = k
              · subst e
                rw [HS.out, HS'.out, regOk_of j hj, t1]; rfl
              · exact hA.out i (by omega)
            clear F
            go_wp2_with fail
            refine (firstYes w.heap.size 0 j _ hj (hc.out _).1 (hc.out _).2).mono ?_
            rintro e w1 ⟨rfl, hw⟩
            obtain ⟨c1, M1, B1⟩ := AF.out w1 hw
            clear hw AF
            go_wp2_with fail
            refine (isNumberC p2 _).mono ?_
            rintro e w2 ⟨rfl, rfl⟩
            rw [t1]
            go_wp2
            go_roundw
            case rel => exact ⟨k + 1, by omega, by go_num, N, M1.out, B1.out⟩
            case measure => simp [intOf]; omega
    · go_wp2
      go_ret
      have : k = xs.length := by omega
      subst this
      exact ⟨ret_bool (okAll_iff.2 hA.out).symm, hB⟩

set_option maxRecDepth 100000 in
set_option maxHeartbeats 1000000 in
theorem endOkC (a1 a2 : Option Addr) (n1 c1 n2 c2 : Nat) (v k : Int) (w : World) :
    Calls Try.prog 68 #[.agg #[.slice a1 n1 c1, .slice a2 n2 c2, .int .i64 v, .int .i64 k]] w fun e w' => e = .returned (.bool (endOk k v n1 n2)) ∧ Below w.heap.size w w' := by
  by_cases h0 : k = 0
  · subst h0
    rw [endOk_0]
    go_enter Try.func68, Try.ntmps68
    go_wp2_with fail
    refine (isNumberC v _).mono ?_
    rintro e w2 ⟨rfl, rfl⟩
    go_wp2
    go_ret
    exact ⟨rfl, (Below.refl _ _).alloc (Nat.le_refl _) _⟩
  by_cases h1 : k = 1
  · subst h1
    rw [endOk_1]
    cases hv : (v == 0) with
    | false =>
      go_enter Try.func68, Try.ntmps68
      go_wp2
      go_ret
      exact ⟨rfl, (Below.refl _ _).alloc (Nat.le_refl _) _⟩
    | true =>
      have E : Hid (decide (n2 = 0) = ((n2 : Int) == 0)) := by show _ = _; rw [Bool.eq_iff_iff]; simp
      go_enter Try.func68, Try.ntmps68
      go_wp2
      go_ret
      exact ⟨ret_bool (by rw [E.out]; simp), (Below.refl _ _).alloc (Nat.le_refl _) _⟩
  by_cases h2 : k = 2
  · subst h2
    rw [endOk_2]
    cases hv : (v == 0) with
    | false =>
      go_enter Try.func68, Try.ntmps68
      go_wp2
      go_ret
      exact ⟨rfl, (Below.refl _ _).alloc (Nat.le_refl _) _⟩
    | true =>
      have E : Hid (decide (n2 = 0) = ((n2 : Int) == 0)) := by show _ = _; rw [Bool.eq_iff_iff]; simp
      go_enter Try.func68, Try.ntmps68
      go_wp2
      go_ret
      exact ⟨ret_bool (by rw [E.out]; simp), (Below.refl _ _).alloc (Nat.le_refl _) _⟩
  by_cases h3 : k = 3
  · subst h3
    rw [endOk_3]
    cases hv : (v == 0) with
    | false =>
      go_enter Try.func68, Try.ntmps68
      go_wp2
      go_ret
      exact ⟨rfl, (Below.refl _ _).alloc (Nat.le_refl _) _⟩
    | true =>
      have E : Hid (decide (n2 = 0) = ((n2 : Int) == 0)) := by show _ = _; rw [Bool.eq_iff_iff]; simp
      have E1 : Hid (decide (n1 = 0) = ((n1 : Int) == 0)) := by show _ = _; rw [Bool.eq_iff_iff]; simp
      cases hn : ((n2 : Int) == 0) with
      | false =>
        go_enter Try.func68, Try.ntmps68
        go_wp2
        go_ret
        exact ⟨ret_bool (by rw [E.out, hn]; simp), (Below.refl _ _).alloc (Nat.le_refl _) _⟩
      | true =>
        go_enter Try.func68, Try.ntmps68
        go_wp2
        go_ret
        exact ⟨ret_bool (by rw [E.out, E1.out, hn]; simp), (Below.refl _ _).alloc (Nat.le_refl _) _⟩
  rw [endOk_no v n1 n2 ⟨h0, h1, h2, h3⟩]
  have e0 : (k == 0) = false := by simpa using h0
  have e1 : (k == 1) = false := by simpa using h1
  have e2 : (k == 2) = false := by simpa using h2
  have e3 : (k == 3) = false := by simpa using h3
  clear h0 h1 h2 h3
  go_enter Try.func68, Try.ntmps68
  go_wp2
  go_ret
  exact ⟨rfl, (Below.refl _ _).alloc (Nat.le_refl _) _⟩

set_option maxRecDepth 100000 in
set_option maxHeartbeats 1000000 in
theorem implExecOk (a1 a2 : Option Addr) (c1 c2 : Nat) (xs ys : List P2) (v k : Int) (w : World) (h1 : Sl w a1 xs) (h2 : Sl w a2 ys) (hn1 : xs.length ≤ 2 ^ 40) (hn2 : ys.length ≤ 2 ^ 40) :
    Calls Try.prog 16 #[.agg #[.slice a1 xs.length c1, .slice a2 ys.length c2, .int .i64 v, .int .i64 k]] w fun e w' => e = .returned (.bool (execOk xs ys v k)) ∧ Below w.heap.size w w' := by
  have H1 : Hid (Sl w a1 xs) := h1
  have H2 : Hid (Sl w a2 ys) := h2
  clear h1 h2
  have E : Hid (execOk xs ys v k = (endOk k v xs.length ys.length && okAll verOk xs && okAll numOk ys)) := rfl
  have CE := fun W => endOkC a1 a2 xs.length c1 ys.length c2 v k W
  generalize endOk k v xs.length ys.length = r at E CE
  have CE' : Hid (∀ W, Calls Try.prog 68 #[.agg #[.slice a1 xs.length c1, .slice a2 ys.length c2, .int .i64 v, .int .i64 k]] W fun e w' => e = .returned (.bool r) ∧ Below W.heap.size W w') := CE
  clear CE
  have B0 : ∀ o, Hid (Below w.heap.size w (w.alloc o)) := fun o => (Below.refl _ _).alloc (Nat.le_refl _) _
  cases r with
  | false =>
    go_enter Try.func16, Try.ntmps16
    go_wp2_with fail
    refine (CE'.out _).mono ?_
    rintro e w1 ⟨rfl, b1⟩
    have B1 : Hid (Below w.heap.size w w1) := (B0 _).out.trans (b1.mono (B0 _).out.size)
    clear b1
    go_wp2
    go_ret
    exact ⟨ret_bool (by rw [E.out]; rfl), B1.out⟩
  | true =>
    go_enter Try.func16, Try.ntmps16
    go_wp2_with fail
    refine (CE'.out _).mono ?_
    rintro e w1 ⟨rfl, b1⟩
    have B1 : Hid (Below w.heap.size w w1) := (B0 _).out.trans (b1.mono (B0 _).out.size)
    have C1 : Hid (∀ o, w1.cell? ⟨w.heap.size, o, none⟩ = (#[.slice a1 xs.length c1, .slice a2 ys.length c2, .int .i64 v, .int .i64 k] : Array Value)[o]?) := fun o => by
      rw [b1.cell (p := ⟨w.heap.size, o, none⟩) (by show w.heap.size < _; rw [size_new]; omega), cell_heap (heap_new _ _)]
    have S1 : Hid (w.heap.size < w1.heap.size) := by show _ < _; have := b1.size; rw [size_new] at this; omega
    have q0 : w1.cell? ⟨w.heap.size, 0, none⟩ = some (.slice a1 xs.length c1) := C1.out 0
    clear b1
    have RC := fun W h => readsOkC a1 c1 xs W h hn1
    generalize okAll verOk xs = r2 at E RC
    have RC' : Hid (∀ W, Sl W a1 xs → Calls Try.prog 69 #[.slice a1 xs.length c1] W fun e w' => e = .returned (.bool r2) ∧ Below W.heap.size W w') := RC
    clear RC
    cases r2 with
    | false =>
      go_wp2_with fail
      refine (RC'.out _ (H1.out.below B1.out)).mono ?_
      rintro e w2 ⟨rfl, b2⟩
      have B2 : Hid (Below w.heap.size w w2) := B1.out.trans (b2.mono B1.out.size)
      clear b2
      go_wp2
      go_ret
      exact ⟨ret_bool (by rw [E.out]; rfl), B2.out⟩
    | true =>
      go_wp2_with fail
      refine (RC'.out _ (H1.out.below B1.out)).mono ?_
      rintro e w2 ⟨rfl, b2⟩
      have B2 : Hid (Below w.heap.size w w2) := B1.out.trans (b2.mono B1.out.size)
      have q1 : w2.cell? ⟨w.heap.size, 1, none⟩ = some (.slice a2 ys.length c2) := by rw [b2.cell (p := ⟨w.heap.size, 1, none⟩) S1.out]; exact C1.out 1
      clear b2 q0
      go_wp2_with fail
      refine (putsOkC a2 c2 ys _ (H2.out.below B2.out) hn2).mono ?_
      rintro e w3 ⟨rfl, b3⟩
      have B3 : Hid (Below w.heap.size w w3) := B2.out.trans (b3.mono B2.out.size)
      clear b3
      generalize okAll numOk ys = r3 at E
      go_wp2
      go_ret
      exact ⟨ret_bool (by rw [E.out]; rfl), B3.out⟩
end Go.Proofs.Ytgcencilgpilaaa.Own

namespace Go.Proofs.Ytgcencilgpilaaa.Own
open Go.RowKit
set_option linter.unusedVariables false
set_option linter.unusedSimpArgs false

def freshAt (bs : List P2) (p : P2) : Bool := (bs.getD p.1.toNat (0, 0)).1 == p.2
/-- Boxes are as a run saw them. -/
def execFresh (bs xs ys : List P2) (v k : Int) : Bool := boxOk bs && execOk xs ys v k && xs.all (freshAt bs)

theorem execOk_reads {xs ys : List P2} {v k : Int} (h : execOk xs ys v k = true) : okAll verOk xs = true := by
  simp only [execOk, Bool.and_eq_true] at h
  exact h.1.2
theorem execOk_puts {xs ys : List P2} {v k : Int} (h : execOk xs ys v k = true) : okAll numOk ys = true := by
  simp only [execOk, Bool.and_eq_true] at h
  exact h.2
theorem okAll_box {f : Int → Bool} {xs : List P2} (h : okAll f xs = true) (i : Nat) (hi : i < xs.length) : ∃ j : Nat, j < 4 ∧ (xs.getD i (0, 0)).1 = j := by
  have := okAll_iff.1 h i hi
  simp only [okAt, Bool.and_eq_true] at this
  exact regOk_nat this.1.1
theorem boxOk_len {bs : List P2} (h : boxOk bs = true) : bs.length = 4 := by
  simp only [boxOk, Bool.and_eq_true, beq_iff_eq] at h
  exact h.1

set_option maxRecDepth 100000 in
set_option maxHeartbeats 2000000 in
theorem implExecFresh (a : Option Addr) (c : Nat) (bs : List P2) (a1 a2 : Option Addr) (c1 c2 : Nat) (xs ys : List P2) (v k : Int) (w : World) (h0 : Sl w a bs) (hc : bs.length ≤ c) (h1 : Sl w a1 xs) (h2 : Sl w a2 ys) (hn1 : xs.length ≤ 2 ^ 40) (hn2 : ys.length ≤ 2 ^ 40) :
    Calls Try.prog 18 #[.slice a bs.length c, .agg #[.slice a1 xs.length c1, .slice a2 ys.length c2, .int .i64 v, .int .i64 k]] w fun e w' => e = .returned (.bool (execFresh bs xs ys v k)) ∧ Below w.heap.size w w' := by
  have H0 : Hid (Sl w a bs) := h0
  have H1 : Hid (Sl w a1 xs) := h1
  have H2 : Hid (Sl w a2 ys) := h2
  clear h0 h1 h2
  have E : Hid (execFresh bs xs ys v k = (boxOk bs && execOk xs ys v k && xs.all (freshAt bs))) := rfl
  obtain ⟨W, hW⟩ : ∃ W, W = w.alloc (.cells #[.slice a1 xs.length c1, .slice a2 ys.length c2, .int .i64 v, .int .i64 k] 27) := ⟨_, rfl⟩
  have BW : Hid (Below w.heap.size w W) := by show Below _ _ _; rw [hW]; exact below_new _ _
  have P0 : Hid (C4 W w.heap.size (.slice a1 xs.length c1) (.slice a2 ys.length c2) (.int .i64 v) (.int .i64 k)) := by show C4 _ _ _ _ _ _; rw [hW]; exact C4.new _ _ _ _ _ _
  have HW : Hid (W = _) := hW
  clear hW
  have CB := implOk a c bs W (H0.out.below BW.out) hc
  cases hb : boxOk bs with
  | false =>
    rw [hb] at CB
    have CB' : Hid _ := CB
    clear CB
    go_enter Try.func18, Try.ntmps18
    go_wp2_with fail
    rw [← HW.out]
    refine Calls.mono CB'.out ?_
    rintro e w1 ⟨rfl, b1⟩
    have B1 : Hid (Below w.heap.size w w1) := BW.out.trans (b1.mono BW.out.size)
    clear b1
    go_wp2_with fail
    go_ret
    exact ⟨ret_bool (by rw [E.out, hb]; rfl), B1.out⟩
  | true =>
    rw [hb] at CB
    have CB' : Hid _ := CB
    have HL : Hid (bs.length = 4) := boxOk_len hb
    have HBO : Hid (boxOk bs = true) := hb
    clear CB hb
    go_enter Try.func18, Try.ntmps18
    go_wp2_with fail
    rw [← HW.out]
    refine Calls.mono CB'.out ?_
    rintro e w1 ⟨rfl, b1⟩
    have B1 : Hid (Below W.heap.size W w1) := b1
    clear b1
    obtain ⟨_, q0, q1, q2, q3⟩ := P0.out.below B1.out
    have CE := implExecOk a1 a2 c1 c2 xs ys v k w1 ((H1.out.below BW.out).below B1.out) ((H2.out.below BW.out).below B1.out) hn1 hn2
    cases he : execOk xs ys v k with
    | false =>
      rw [he] at CE
      have CE' : Hid _ := CE
      clear CE
      go_wp2_with fail
      refine Calls.mono CE'.out ?_
      rintro e w2 ⟨rfl, b2⟩
      have B2 : Hid (Below w.heap.size w w2) := BW.out.trans ((B1.out.trans (b2.mono B1.out.size)).mono BW.out.size)
      clear b2
      go_wp2_with fail
      go_ret
      exact ⟨ret_bool (by rw [E.out, he]; simp), B2.out⟩
    | true =>
      rw [he] at CE
      have CE' : Hid _ := CE
      have E2 : Hid (execFresh bs xs ys v k = xs.all (freshAt bs)) := by show _ = _; rw [E.out, he, HBO.out]; rfl
      have HR : Hid (okAll verOk xs = true) := execOk_reads he
      clear CE he
      go_wp2_with fail
      refine Calls.mono CE'.out ?_
      rintro e w2 ⟨rfl, b2⟩
      have B2 : Hid (Below W.heap.size W w2) := B1.out.trans (b2.mono B1.out.size)
      clear b2 q0 q1 q2 q3
      obtain ⟨_, q0, _, _, _⟩ := P0.out.below B2.out
      go_wp2_with fail
      go_loopw [18] (fun i wr => ∃ j : Nat, j ≤ xs.length ∧ i = .int .i64 j ∧ Hid ((xs.take j).all (freshAt bs) = true) ∧ Below W.heap.size W wr) (fun i _ => xs.length - (intOf i).toNat)
      case atStart => exact ⟨0, Nat.zero_le _, rfl, rfl, B2.out⟩
      case round =>
        clear q0
        obtain ⟨j, hj, rfl, hA, hB⟩ := hrel
        have HB : Hid (Below W.heap.size W wr) := hB
        by_cases hlt : j < xs.length
        · rcases H1.out with h | ⟨b1, o1, rfl, h1⟩
          · subst h; simp at hlt
          have H1' : Hid (BoxAt wr b1 o1 xs) := (h1.below BW.out).below hB
          rcases H0.out with h | ⟨b0, o0, rfl, h0⟩
          · have := HL.out; subst h; simp at this
          have H0' : Hid (BoxAt wr b0 o0 bs) := (h0.below BW.out).below hB
          clear h1 h0 hB
          obtain ⟨p, hp⟩ : ∃ p, p = xs.getD j (0, 0) := ⟨_, rfl⟩
          obtain ⟨ca, cb⟩ := H1'.out.2 j hlt
          rw [← hp] at ca cb
          have HP : Hid (p = xs.getD j (0, 0)) := hp
          clear hp
          obtain ⟨p1, p2⟩ := p
          obtain ⟨m, hm, hm1⟩ := okAll_box HR.out j hlt
          rw [← HP.out] at hm1
          have hm2 : p1 = (m : Int) := hm1
          clear hm1
          subst hm2
          obtain ⟨x, hx⟩ : ∃ x, x = (bs.getD m (0, 0)).1 := ⟨_, rfl⟩
          have cx := (H0'.out.2 m (by rw [HL.out]; exact hm)).1
          rw [← hx] at cx
          have HF : Hid (freshAt bs (xs.getD j (0, 0)) = (x == p2)) := by show _ = _; rw [← HP.out, hx]; simp [freshAt]
          clear hx
          obtain ⟨X, hX⟩ : ∃ X, X = wr.alloc (.cells #[.int .i64 (m : Int), .int .i64 p2] 40) := ⟨_, rfl⟩
          have BX : Hid (Below W.heap.size W X) := by show Below _ _ _; rw [hX]; exact HB.out.alloc HB.out.size _
          have y0 : X.cell? ⟨wr.heap.size, 0, none⟩ = some (.int .i64 (m : Int)) := by rw [hX, cell_heap (heap_new _ _)]; rfl
          have y1 : X.cell? ⟨wr.heap.size, 1, none⟩ = some (.int .i64 p2) := by rw [hX, cell_heap (heap_new _ _)]; rfl
          have yx : X.cell? ⟨b0, o0 + m * 2, none⟩ = some (.int .i64 x) := by rw [hX, (below_new wr _).cell (p := ⟨b0, o0 + m * 2, none⟩) H0'.out.1]; exact cx
          have HX : Hid (X = _) := hX
          have hml : (m : Int) < (bs.length : Int) := by have := HL.out; omega
          clear hX cx
          go_upto_region 6 with fail
          rw [← HX.out]
          clear ca cb
          cases t : (x == p2) with
          | true =>
            have N : Hid ((xs.take (j + 1)).all (freshAt bs) = true) := by show _ = _; rw [all_take_succ (0, 0) hlt, hA.out, HF.out, t]; rfl
            have t' : (x != p2) = false := by simp [bne, t]
            go_quiet (fail)
            go_wp2
            go_roundw
            case rel => exact ⟨j + 1, by omega, by go_num, N, below_drewN BX.out _⟩
            case measure => simp [intOf]; omega
          | false =>
            have F : Hid (xs.all (freshAt bs) = false) := all_false (0, 0) hlt (by rw [HF.out]; exact t)
            have t' : (x != p2) = true := by simp [bne, t]
            go_quiet (fail)
            go_wp2
            go_ret
            exact ⟨ret_bool (by rw [E2.out]; exact F.out.symm), below_drewN (BW.out.trans (BX.out.mono BW.out.size)) _⟩
        · have h1 : j = xs.length := by omega
          have h2 := hA.out
          subst h1
          rw [List.take_length] at h2
          have HA : Hid (xs.all (freshAt bs) = true) := h2
          clear h2 hA hB
          go_wp2_with fail
          go_ret
          exact ⟨ret_bool (by rw [E2.out]; exact HA.out.symm), BW.out.trans (HB.out.mono BW.out.size)⟩
end Go.Proofs.Ytgcencilgpilaaa.Own

namespace Go.Proofs.Ytgcencilgpilaaa.Own
open Go.RowKit
set_option linter.unusedVariables false
set_option linter.unusedSimpArgs false

theorem BoxAt.pre {w : World} {b off : Nat} {xs : List P2} (h : BoxAt w b off xs) (n : Nat) (hn : n ≤ xs.length) : BoxAt w b off (xs.take n) := by
  refine ⟨h.1, fun i hi => ?_⟩
  rw [List.length_take] at hi
  have e : (xs.take n).getD i (0, 0) = xs.getD i (0, 0) := by simp [List.getD, show i < n by omega]
  rw [e]; exact h.2 i (by omega)

/-- The first test of spec.ExecOk. -/
theorem endOk_true {k v : Int} {nr np : Nat} (h : endOk k v nr np = true) : (k = 0 ∧ numOk v = true) ∨ ((k = 1 ∨ k = 2) ∧ v = 0 ∧ np = 0) ∨ (k = 3 ∧ v = 0 ∧ np = 0 ∧ nr = 0) := by
  unfold endOk at h
  split at h
  · exact .inl ⟨by assumption, h⟩
  split at h
  · simp at h; exact .inr (.inl ⟨by assumption, h.1, h.2⟩)
  split at h
  · simp at h; exact .inr (.inr ⟨by assumption, h.1.1, h.1.2, h.2⟩)
  · cases h
theorem endOk_falls {k v : Int} {nr np : Nat} (h : endOk k v nr np = false) : k < 0 ∨ 3 < k ∨ (0 ≤ k ∧ k ≤ 3 ∧ numOk v = false) ∨ (1 ≤ k ∧ k ≤ 3 ∧ numOk v = true ∧ v ≠ 0) ∨ (1 ≤ k ∧ k ≤ 3 ∧ v = 0 ∧ 0 < np) ∨ (k = 3 ∧ v = 0 ∧ np = 0 ∧ 0 < nr) := by
  by_cases h1 : k < 0
  · exact .inl h1
  by_cases h2 : 3 < k
  · exact .inr (.inl h2)
  cases hn : numOk v with
  | false => exact .inr (.inr (.inl ⟨by omega, by omega, rfl⟩))
  | true =>
    by_cases h0 : k = 0
    · subst h0; rw [endOk_0, hn] at h; cases h
    by_cases hv : v = 0
    · subst hv
      by_cases hp : 0 < np
      · exact .inr (.inr (.inr (.inr (.inl ⟨by omega, by omega, rfl, hp⟩))))
      by_cases h3 : k = 3
      · subst h3
        by_cases hr : 0 < nr
        · exact .inr (.inr (.inr (.inr (.inr ⟨rfl, rfl, by omega, hr⟩))))
        · rw [endOk_3] at h; simp at h; omega
      · have : k = 1 ∨ k = 2 := by omega
        rcases this with rfl | rfl
        · rw [endOk_1] at h; simp at h; omega
        · rw [endOk_2] at h; simp at h; omega
    · exact .inr (.inr (.inr (.inl ⟨by omega, by omega, rfl, hv⟩)))

set_option maxRecDepth 100000 in
set_option maxHeartbeats 2000000 in
theorem specExecOk_no (a1 a2 : Option Addr) (n1 c1 n2 c2 : Nat) (v k : Int) (w : World) (h : endOk k v n1 n2 = false) :
    Calls Try.prog 17 #[.agg #[.slice a1 n1 c1, .slice a2 n2 c2, .int .i64 v, .int .i64 k]] w fun e w' => e = .returned (.bool false) ∧ Below w.heap.size w w' := by
  have B0 : ∀ o, Hid (Below w.heap.size w (w.alloc o)) := fun o => (Below.refl _ _).alloc (Nat.le_refl _) _
  rcases endOk_falls h with h | h | ⟨h1, h2, h3⟩ | ⟨h1, h2, h3, h4⟩ | ⟨h1, h2, rfl, h4⟩ | ⟨rfl, rfl, rfl, h4⟩
  · go_enter Try.func17, Try.ntmps17
    go_wp2
    go_ret
    exact ⟨rfl, (B0 _).out⟩
  · have h' : ¬ k < 0 := by omega
    go_enter Try.func17, Try.ntmps17
    go_wp2
    go_ret
    exact ⟨rfl, (B0 _).out⟩
  · have H3 : Hid (numOk v = false) := h3
    clear h3
    go_enter Try.func17, Try.ntmps17
    go_wp2_with fail
    refine (l1Num v _).mono ?_
    rintro e w1 ⟨rfl, rfl⟩
    rw [H3.out]
    go_wp2
    go_ret
    exact ⟨rfl, (B0 _).out⟩
  · have H3 : Hid (numOk v = true) := h3
    have e0 : (k != 0) = true := by simp; omega
    have e1 : (v != 0) = true := by simpa using h4
    clear h3 h4
    go_enter Try.func17, Try.ntmps17
    go_wp2_with fail
    refine (l1Num v _).mono ?_
    rintro e w1 ⟨rfl, rfl⟩
    rw [H3.out]
    go_wp2
    go_ret
    exact ⟨rfl, (B0 _).out⟩
  · have e0 : (k != 0) = true := by simp; omega
    have e1 : decide ((0 : Int) < (n2 : Int)) = true := by simp; omega
    go_enter Try.func17, Try.ntmps17
    go_wp2_with fail
    refine (l1Num 0 _).mono ?_
    rintro e w1 ⟨rfl, rfl⟩
    rw [show numOk 0 = true from rfl]
    go_wp2
    go_ret
    exact ⟨rfl, (B0 _).out⟩
  · have e1 : decide ((0 : Int) < (n1 : Int)) = true := by simp; omega
    go_enter Try.func17, Try.ntmps17
    go_wp2_with fail
    refine (l1Num 0 _).mono ?_
    rintro e w1 ⟨rfl, rfl⟩
    rw [show numOk 0 = true from rfl]
    go_wp2
    go_ret
    exact ⟨rfl, (B0 _).out⟩
end Go.Proofs.Ytgcencilgpilaaa.Own

namespace Go.Proofs.Ytgcencilgpilaaa.Own
open Go.RowKit
set_option linter.unusedVariables false
set_option linter.unusedSimpArgs false

set_option maxRecDepth 100000 in
set_option maxHeartbeats 4000000 in
theorem specExecOk_yes (a1 a2 : Option Addr) (c1 c2 : Nat) (xs ys : List P2) (v k : Int) (w : World) (h1 : Sl w a1 xs) (h2 : Sl w a2 ys) (hn1 : xs.length ≤ 2 ^ 40) (hn2 : ys.length ≤ 2 ^ 40) (hc1 : xs.length ≤ c1) (hc2 : ys.length ≤ c2) (he : endOk k v xs.length ys.length = true) :
    Calls Try.prog 17 #[.agg #[.slice a1 xs.length c1, .slice a2 ys.length c2, .int .i64 v, .int .i64 k]] w fun e w' => e = .returned (.bool (okAll verOk xs && okAll numOk ys)) ∧ Below w.heap.size w w' := by
  obtain ⟨n1, l1⟩ : ∃ n, xs.length = n := ⟨_, rfl⟩
  obtain ⟨n2, l2⟩ : ∃ n, ys.length = n := ⟨_, rfl⟩
  rw [l1] at hn1 hc1 he ⊢
  rw [l2] at hn2 hc2 he ⊢
  have L1 : Hid (xs.length = n1) := l1
  have L2 : Hid (ys.length = n2) := l2
  clear l1 l2
  have H1 : Hid (Sl w a1 xs) := h1
  have H2 : Hid (Sl w a2 ys) := h2
  clear h1 h2
  obtain ⟨W, hW⟩ : ∃ W, W = w.alloc (.cells #[.slice a1 n1 c1, .slice a2 n2 c2, .int .i64 v, .int .i64 k] 27) := ⟨_, rfl⟩
  have hbW : Hid (Below w.heap.size w W) := by
    show Below _ _ _
    rw [hW]; exact (Below.refl _ _).alloc (Nat.le_refl _) _
  have hsW : Hid (W.heap.size = w.heap.size + 1) := by show _ = _; rw [hW]; simp
  have g0 : Hid (W.heap[w.heap.size]? = some (.cells #[.slice a1 n1 c1, .slice a2 n2 c2, .int .i64 v, .int .i64 k] 27 (0, 0))) := by
    show _ = _
    rw [hW]; exact heap_new _ _
  have HW : Hid (W = _) := hW
  clear hW
  have HN : Hid (numOk v = true) := by
    rcases endOk_true he with ⟨_, h⟩ | ⟨_, rfl, _⟩ | ⟨_, rfl, _⟩
    · exact h
    · rfl
    · rfl
  have hcases : (¬ k < 0 ∧ ¬ 3 < k) ∧ (((k != 0) = false ∧ (k == 3) = false) ∨ ((k != 0) = true ∧ (v != 0) = false ∧ n2 = 0 ∧ (k == 3) = false) ∨ ((k != 0) = true ∧ (v != 0) = false ∧ n2 = 0 ∧ (k == 3) = true ∧ n1 = 0)) := by
    rcases endOk_true he with ⟨rfl, _⟩ | ⟨h, rfl, h2⟩ | ⟨rfl, rfl, h2, h3⟩
    · exact ⟨by omega, .inl ⟨rfl, rfl⟩⟩
    · refine ⟨by omega, .inr (.inl ⟨by simp; omega, rfl, h2, by simp; omega⟩)⟩
    · exact ⟨by omega, .inr (.inr ⟨rfl, rfl, h2, rfl, h3⟩)⟩
  clear he
  have HC : Hid ((¬ k < 0 ∧ ¬ 3 < k) ∧ (((k != 0) = false ∧ (k == 3) = false) ∨ ((k != 0) = true ∧ (v != 0) = false ∧ n2 = 0 ∧ (k == 3) = false) ∨ ((k != 0) = true ∧ (v != 0) = false ∧ n2 = 0 ∧ (k == 3) = true ∧ n1 = 0))) := hcases
  clear hcases
  go_enter Try.func17, Try.ntmps17
  go_upto_region 1 with fail
  go_cut [45] from 5 to 45 (fun c wx => c = .bool false ∧ wx = W)
  case first =>
    obtain ⟨⟨k0, k3⟩, hcases⟩ := HC.out
    rcases hcases with ⟨e0, e3⟩ | ⟨e0, ev, rfl, e3⟩ | ⟨e0, ev, rfl, e3, rfl⟩
    all_goals
      go_wp2_with fail
      refine (l1Num v _).mono ?_
      rintro e w1 ⟨rfl, rfl⟩
      rw [HN.out]
      go_wp2_with fail
      go_meet
      exact ⟨rfl, HW.out.symm⟩
  case rest =>
    obtain ⟨rfl, hwc⟩ := hcut
    have hwc' := hwc.symm
    subst hwc'
    clear HC HN hwc
    have q0 : W.cell? ⟨w.heap.size, 0, none⟩ = some (.slice a1 n1 c1) := by rw [cell_heap g0.out]; rfl
    have q1 : W.cell? ⟨w.heap.size, 1, none⟩ = some (.slice a2 n2 c2) := by rw [cell_heap g0.out]; rfl
    go_wp2_with fail
    go_loopw [3] (fun i wr => ∃ j : Nat, j ≤ n1 ∧ i = .int .i64 j ∧ Hid (∀ i, i < j → okAt verOk xs i = true) ∧ Below W.heap.size W wr) (fun i _ => n1 - (intOf i).toNat)
    case atStart => exact ⟨0, Nat.zero_le _, rfl, fun i hi => by omega, Below.refl _ _⟩
    case round =>
      obtain ⟨j, hj, rfl, hA, hB⟩ := hrel
      have HB : Hid (Below W.heap.size W wr) := hB
      have s0 : wr.cell? ⟨w.heap.size, 0, none⟩ = some (.slice a1 n1 c1) := by rw [hB.cell (p := ⟨w.heap.size, 0, none⟩) (by show w.heap.size < _; have := hsW.out; omega)]; exact q0
      have s1 : wr.cell? ⟨w.heap.size, 1, none⟩ = some (.slice a2 n2 c2) := by rw [hB.cell (p := ⟨w.heap.size, 1, none⟩) (by show w.heap.size < _; have := hsW.out; omega)]; exact q1
      clear q0 q1
      by_cases hlt : j < n1
      · rcases H1.out with h | ⟨b1, o1, rfl, h1⟩
        · have := L1.out; subst h; simp at this; omega
        have H1' : Hid (BoxAt wr b1 o1 xs) := (h1.below hbW.out).below hB
        clear h1 hB
        obtain ⟨p, hp⟩ : ∃ p, p = xs.getD j (0, 0) := ⟨_, rfl⟩
        obtain ⟨ca, cb⟩ := H1'.out.2 j (by rw [L1.out]; exact hlt)
        rw [← hp] at ca cb
        have HP : Hid (p = xs.getD j (0, 0)) := hp
        clear hp
        obtain ⟨p1, p2⟩ := p
        have HS : Hid (okAt verOk xs j = (regOk p1 && verOk p2 && !((xs.take j).any fun p => p.1 == p1))) := by show _ = _; unfold okAt; rw [← HP.out]
        have SC : Hid (∀ n, Calls Try.prog 73 #[.slice (some ⟨b1, o1, none⟩) j c1, .int .i64 p1] (wr.drewN n) fun e w' => e = .returned (.bool ((xs.take j).any fun p => p.1 == p1)) ∧ w' = wr.drewN n) := fun n =>
          l3Saw (some ⟨b1, o1, none⟩) c1 j (xs.take j) p1 _ (.inr ⟨_, _, rfl, H1'.out.pre j (by have := L1.out; omega)⟩) (by have := L1.out; simp; omega) (by omega)
        generalize ((xs.take j).any fun p => p.1 == p1) = sn at HS SC
        have hjc : j ≤ c1 := by omega
        go_upto_region 6 with fail
        go_cut [91] from 46 to 91 (fun c wx => c = .bool (!(regOk p1 && verOk p2 && !sn)) ∧ Below W.heap.size W wx)
        case first =>
          cases hr : regOk p1 with
          | false =>
            go_quiet ((first | (go_at_call 72; exact Calls.quiet_of_same (l2Box _ _)) | (go_at_call 73; exact Calls.quiet_of_same (SC.out _))))
            go_wp2
            go_meet
            exact ⟨by rw [hr]; rfl, below_drewN HB.out _⟩
          | true =>
            by_cases t1 : p2 < 0
            · have V : Hid (verOk p2 = false) := by show _ = _; simp [verOk]; omega
              go_quiet ((first | (go_at_call 72; exact Calls.quiet_of_same (l2Box _ _)) | (go_at_call 73; exact Calls.quiet_of_same (SC.out _))))
              go_wp2
              go_meet
              exact ⟨by rw [hr, V.out]; rfl, below_drewN HB.out _⟩
            · by_cases t2 : 1000000 < p2
              · have V : Hid (verOk p2 = false) := by show _ = _; simp [verOk]; omega
                have t2' : decide (1000000 < p2) = true := by simpa using t2
                go_quiet ((first | (go_at_call 72; exact Calls.quiet_of_same (l2Box _ _)) | (go_at_call 73; exact Calls.quiet_of_same (SC.out _))))
                go_wp2
                go_meet
                exact ⟨by rw [hr, V.out]; rfl, below_drewN HB.out _⟩
              · have V : Hid (verOk p2 = true) := by show _ = _; simp [verOk]; omega
                go_quiet ((first | (go_at_call 72; exact Calls.quiet_of_same (l2Box _ _)) | (go_at_call 73; exact Calls.quiet_of_same (SC.out _))))
                go_wp2
                go_meet
                exact ⟨by rw [hr, V.out]; cases sn <;> rfl, below_drewN HB.out _⟩
        case rest =>
          obtain ⟨rfl, hB2⟩ := hcut
          rw [← HS.out]
          have HB2 : Hid (Below W.heap.size W wc) := hB2
          clear hB2 HB ca cb s0 s1 HP HS SC H1'
          cases ho : okAt verOk xs j with
          | false =>
            have F' : Hid ((okAll verOk xs && okAll numOk ys) = false) := by show _ = _; rw [okAll_false (by rw [L1.out]; exact hlt) ho]; rfl
            go_wp2
            go_ret
            exact ⟨ret_bool F'.out.symm, hbW.out.trans (HB2.out.mono (by have := hsW.out; omega))⟩
          | true =>
            have N : Hid (∀ i, i < j + 1 → okAt verOk xs i = true) := by
              intro i hi
              by_cases e : i = j
              · subst e; exact ho
              · exact hA.out i (by omega)
            clear ho
            go_wp2
            go_roundw
            case rel => exact ⟨j + 1, by omega, by go_num, N, HB2.out⟩
            case measure => simp [intOf]; omega
      · have HA : Hid (okAll verOk xs = true) := by
          have h1 : j = n1 := by omega
          have h2 := hA.out
          rw [h1, ← L1.out] at h2
          exact okAll_iff.2 h2
        have E : Hid ((okAll verOk xs && okAll numOk ys) = okAll numOk ys) := by show _ = _; rw [HA.out]; rfl
        clear hA hB HA
        go_wp2_with fail
        go_loopw [4] (fun i ws => ∃ j : Nat, j ≤ n2 ∧ i = .int .i64 j ∧ Hid (∀ i, i < j → okAt numOk ys i = true) ∧ Below W.heap.size W ws) (fun i _ => n2 - (intOf i).toNat)
        case atStart => exact ⟨0, Nat.zero_le _, rfl, fun i hi => by omega, HB.out⟩
        case round =>
          clear s0 s1 HB hlt hj
          obtain ⟨m, hm, rfl, hA, hB⟩ := hrel
          have HB : Hid (Below W.heap.size W wr) := hB
          have s1 : wr.cell? ⟨w.heap.size, 1, none⟩ = some (.slice a2 n2 c2) := by rw [hB.cell (p := ⟨w.heap.size, 1, none⟩) (by show w.heap.size < _; have := hsW.out; omega), cell_heap g0.out]; rfl
          by_cases hlt : m < n2
          · rcases H2.out with h | ⟨b1, o1, rfl, h1⟩
            · have := L2.out; subst h; simp at this; omega
            have H1' : Hid (BoxAt wr b1 o1 ys) := (h1.below hbW.out).below hB
            clear h1 hB
            obtain ⟨p, hp⟩ : ∃ p, p = ys.getD m (0, 0) := ⟨_, rfl⟩
            obtain ⟨ca, cb⟩ := H1'.out.2 m (by rw [L2.out]; exact hlt)
            rw [← hp] at ca cb
            have HP : Hid (p = ys.getD m (0, 0)) := hp
            clear hp
            obtain ⟨p1, p2⟩ := p
            have HS : Hid (okAt numOk ys m = (regOk p1 && numOk p2 && !((ys.take m).any fun p => p.1 == p1))) := by show _ = _; unfold okAt; rw [← HP.out]
            have SC : Hid (∀ n, Calls Try.prog 74 #[.slice (some ⟨b1, o1, none⟩) m c2, .int .i64 p1] (wr.drewN n) fun e w' => e = .returned (.int .i64 (placeOf (ys.take m) p1)) ∧ w' = wr.drewN n) := fun n =>
              l3At (some ⟨b1, o1, none⟩) c2 m (ys.take m) p1 _ (.inr ⟨_, _, rfl, H1'.out.pre m (by have := L2.out; omega)⟩) (by have := L2.out; simp; omega) (by omega)
            have SP : Hid (decide (placeOf (ys.take m) p1 ≥ 0) = ((ys.take m).any fun p => p.1 == p1)) := placeOf_neg _ _
            generalize ((ys.take m).any fun p => p.1 == p1) = sn at HS SP
            generalize placeOf (ys.take m) p1 = pl at SC SP
            have hjc : m ≤ c2 := by omega
            go_upto_region 11 with fail
            go_cut [130] from 92 to 130 (fun c wx => c = .bool (!(regOk p1 && numOk p2 && !sn)) ∧ Below W.heap.size W wx)
            case first =>
              cases hr : regOk p1 with
              | false =>
                go_quiet ((first | (go_at_call 72; exact Calls.quiet_of_same (l2Box _ _)) | (go_at_call 71; exact Calls.quiet_of_same (l1Num _ _)) | (go_at_call 74; exact Calls.quiet_of_same (SC.out _))))
                go_wp2
                go_meet
                exact ⟨by rw [hr]; rfl, below_drewN HB.out _⟩
              | true =>
                cases hv : numOk p2 with
                | false =>
                  go_quiet ((first | (go_at_call 72; exact Calls.quiet_of_same (l2Box _ _)) | (go_at_call 71; exact Calls.quiet_of_same (l1Num _ _)) | (go_at_call 74; exact Calls.quiet_of_same (SC.out _))))
                  go_wp2
                  go_meet
                  exact ⟨by rw [hr, hv]; rfl, below_drewN HB.out _⟩
                | true =>
                  go_quiet ((first | (go_at_call 72; exact Calls.quiet_of_same (l2Box _ _)) | (go_at_call 71; exact Calls.quiet_of_same (l1Num _ _)) | (go_at_call 74; exact Calls.quiet_of_same (SC.out _))))
                  go_wp2
                  go_meet
                  exact ⟨by rw [hr, hv, ← SP.out]; simp, below_drewN HB.out _⟩
            case rest =>
              obtain ⟨rfl, hB2⟩ := hcut
              rw [← HS.out]
              have HB2 : Hid (Below W.heap.size W wc) := hB2
              clear hB2 HB ca cb s1 HP HS SC H1' SP
              cases ho : okAt numOk ys m with
              | false =>
                have F' : Hid (okAll numOk ys = false) := okAll_false (by rw [L2.out]; exact hlt) ho
                go_wp2
                go_ret
                exact ⟨ret_bool (by rw [E.out]; exact F'.out.symm), hbW.out.trans (HB2.out.mono (by have := hsW.out; omega))⟩
              | true =>
                have N : Hid (∀ i, i < m + 1 → okAt numOk ys i = true) := by
                  intro i hi
                  by_cases e : i = m
                  · subst e; exact ho
                  · exact hA.out i (by omega)
                clear ho
                go_wp2
                go_roundw
                case rel => exact ⟨m + 1, by omega, by go_num, N, HB2.out⟩
                case measure => simp [intOf]; omega
          · have HA : Hid (okAll numOk ys = true) := by
              have h1 : m = n2 := by omega
              have h2 := hA.out
              rw [h1, ← L2.out] at h2
              exact okAll_iff.2 h2
            clear hA hB
            go_wp2
            go_ret
            exact ⟨ret_bool (by rw [E.out]; exact HA.out.symm), hbW.out.trans (HB.out.mono (by have := hsW.out; omega))⟩

theorem specExecOk (a1 a2 : Option Addr) (c1 c2 : Nat) (xs ys : List P2) (v k : Int) (w : World) (h1 : Sl w a1 xs) (h2 : Sl w a2 ys) (hn1 : xs.length ≤ 2 ^ 40) (hn2 : ys.length ≤ 2 ^ 40) (hc1 : xs.length ≤ c1) (hc2 : ys.length ≤ c2) :
    Calls Try.prog 17 #[.agg #[.slice a1 xs.length c1, .slice a2 ys.length c2, .int .i64 v, .int .i64 k]] w fun e w' => e = .returned (.bool (execOk xs ys v k)) ∧ Below w.heap.size w w' := by
  unfold execOk
  cases he : endOk k v xs.length ys.length with
  | false => exact specExecOk_no a1 a2 _ c1 _ c2 v k w he
  | true =>
    refine (specExecOk_yes a1 a2 c1 c2 xs ys v k w h1 h2 hn1 hn2 hc1 hc2 he).mono ?_
    rintro e w' ⟨rfl, hb⟩
    exact ⟨by simp, hb⟩
end Go.Proofs.Ytgcencilgpilaaa.Own

namespace Go.Proofs.Ytgcencilgpilaaa.Own
open Go.RowKit
set_option linter.unusedVariables false
set_option linter.unusedSimpArgs false

set_option maxRecDepth 100000 in
set_option maxHeartbeats 2000000 in
theorem specExecFresh (a : Option Addr) (c : Nat) (bs : List P2) (a1 a2 : Option Addr) (c1 c2 : Nat) (xs ys : List P2) (v k : Int) (w : World) (h0 : Sl w a bs) (hn0 : bs.length ≤ 2 ^ 40) (h1 : Sl w a1 xs) (h2 : Sl w a2 ys) (hn1 : xs.length ≤ 2 ^ 40) (hn2 : ys.length ≤ 2 ^ 40) (hc1 : xs.length ≤ c1) (hc2 : ys.length ≤ c2) :
    Calls Try.prog 19 #[.slice a bs.length c, .agg #[.slice a1 xs.length c1, .slice a2 ys.length c2, .int .i64 v, .int .i64 k]] w fun e w' => e = .returned (.bool (execFresh bs xs ys v k)) ∧ Below w.heap.size w w' := by
  have H0 : Hid (Sl w a bs) := h0
  have H1 : Hid (Sl w a1 xs) := h1
  have H2 : Hid (Sl w a2 ys) := h2
  clear h0 h1 h2
  have E : Hid (execFresh bs xs ys v k = (boxOk bs && execOk xs ys v k && xs.all (freshAt bs))) := rfl
  obtain ⟨W, hW⟩ : ∃ W, W = w.alloc (.cells #[.slice a1 xs.length c1, .slice a2 ys.length c2, .int .i64 v, .int .i64 k] 27) := ⟨_, rfl⟩
  have BW : Hid (Below w.heap.size w W) := by show Below _ _ _; rw [hW]; exact below_new _ _
  have P0 : Hid (C4 W w.heap.size (.slice a1 xs.length c1) (.slice a2 ys.length c2) (.int .i64 v) (.int .i64 k)) := by show C4 _ _ _ _ _ _; rw [hW]; exact C4.new _ _ _ _ _ _
  have HW : Hid (W = _) := hW
  clear hW
  have CB := specOk a c bs W (H0.out.below BW.out) hn0
  cases hb : boxOk bs with
  | false =>
    rw [hb] at CB
    have CB' : Hid _ := CB
    clear CB
    go_enter Try.func19, Try.ntmps19
    go_wp2_with fail
    rw [← HW.out]
    refine Calls.mono CB'.out ?_
    rintro e w1 ⟨rfl, rfl⟩
    go_wp2_with fail
    go_ret
    exact ⟨ret_bool (by rw [E.out, hb]; rfl), BW.out⟩
  | true =>
    rw [hb] at CB
    have CB' : Hid _ := CB
    have HL : Hid (bs.length = 4) := boxOk_len hb
    have HBO : Hid (boxOk bs = true) := hb
    clear CB hb
    go_enter Try.func19, Try.ntmps19
    go_wp2_with fail
    rw [← HW.out]
    refine Calls.mono CB'.out ?_
    rintro e w1 ⟨rfl, hw1⟩
    subst hw1
    obtain ⟨_, q0, q1, q2, q3⟩ := P0.out
    have CE := specExecOk a1 a2 c1 c2 xs ys v k w1 (H1.out.below BW.out) (H2.out.below BW.out) hn1 hn2 hc1 hc2
    cases he : execOk xs ys v k with
    | false =>
      rw [he] at CE
      have CE' : Hid _ := CE
      clear CE
      go_wp2_with fail
      refine Calls.mono CE'.out ?_
      rintro e w2 ⟨rfl, b2⟩
      have B2 : Hid (Below w.heap.size w w2) := BW.out.trans (b2.mono BW.out.size)
      clear b2
      go_wp2_with fail
      go_ret
      exact ⟨ret_bool (by rw [E.out, he]; simp), B2.out⟩
    | true =>
      rw [he] at CE
      have CE' : Hid _ := CE
      have E2 : Hid (execFresh bs xs ys v k = xs.all (freshAt bs)) := by show _ = _; rw [E.out, he, HBO.out]; rfl
      have HR : Hid (okAll verOk xs = true) := execOk_reads he
      clear CE he
      go_wp2_with fail
      refine Calls.mono CE'.out ?_
      rintro e w2 ⟨rfl, b2⟩
      have B2 : Hid (Below w1.heap.size w1 w2) := b2
      clear b2 q0 q1 q2 q3
      obtain ⟨_, q0, _, _, _⟩ := P0.out.below B2.out
      go_wp2_with fail
      go_loopw [5] (fun i wr => ∃ j : Nat, j ≤ xs.length ∧ i = .int .i64 j ∧ Hid ((xs.take j).all (freshAt bs) = true) ∧ Below w1.heap.size w1 wr) (fun i _ => xs.length - (intOf i).toNat)
      case atStart => exact ⟨0, Nat.zero_le _, rfl, rfl, B2.out⟩
      case round =>
        clear q0
        obtain ⟨j, hj, rfl, hA, hB⟩ := hrel
        have HB : Hid (Below w1.heap.size w1 wr) := hB
        obtain ⟨_, q0, _, _, _⟩ := P0.out.below hB
        by_cases hlt : j < xs.length
        · rcases H1.out with h | ⟨b1, o1, rfl, h1⟩
          · subst h; simp at hlt
          have H1' : Hid (BoxAt wr b1 o1 xs) := (h1.below BW.out).below hB
          rcases H0.out with h | ⟨b0, o0, rfl, h0⟩
          · have := HL.out; subst h; simp at this
          have H0' : Hid (BoxAt wr b0 o0 bs) := (h0.below BW.out).below hB
          clear h1 h0 hB
          obtain ⟨p, hp⟩ : ∃ p, p = xs.getD j (0, 0) := ⟨_, rfl⟩
          obtain ⟨ca, cb⟩ := H1'.out.2 j hlt
          rw [← hp] at ca cb
          have HP : Hid (p = xs.getD j (0, 0)) := hp
          clear hp
          obtain ⟨p1, p2⟩ := p
          obtain ⟨m, hm, hm1⟩ := okAll_box HR.out j hlt
          rw [← HP.out] at hm1
          have hm2 : p1 = (m : Int) := hm1
          clear hm1
          subst hm2
          obtain ⟨x, hx⟩ : ∃ x, x = (bs.getD m (0, 0)).1 := ⟨_, rfl⟩
          have cx := (H0'.out.2 m (by rw [HL.out]; exact hm)).1
          rw [← hx] at cx
          have HF : Hid (freshAt bs (xs.getD j (0, 0)) = (x == p2)) := by show _ = _; rw [← HP.out, hx]; simp [freshAt]
          have hml : (m : Int) < (bs.length : Int) := by have := HL.out; omega
          clear hx
          cases t : (x == p2) with
          | true =>
            have N : Hid ((xs.take (j + 1)).all (freshAt bs) = true) := by show _ = _; rw [all_take_succ (0, 0) hlt, hA.out, HF.out, t]; rfl
            have t' : (x != p2) = false := by simp [bne, t]
            go_wp2
            go_quiet (fail)
            go_wp2
            go_roundw
            case rel => exact ⟨j + 1, by omega, by go_num, N, below_drewN HB.out _⟩
            case measure => simp [intOf]; omega
          | false =>
            have F : Hid (xs.all (freshAt bs) = false) := all_false (0, 0) hlt (by rw [HF.out]; exact t)
            have t' : (x != p2) = true := by simp [bne, t]
            go_wp2
            go_quiet (fail)
            go_wp2
            go_ret
            exact ⟨ret_bool (by rw [E2.out]; exact F.out.symm), below_drewN (BW.out.trans (HB.out.mono BW.out.size)) _⟩
        · have h1 : j = xs.length := by omega
          have h2 := hA.out
          subst h1
          rw [List.take_length] at h2
          have HA : Hid (xs.all (freshAt bs) = true) := h2
          clear h2 hA hB
          go_wp2_with fail
          go_ret
          exact ⟨ret_bool (by rw [E2.out]; exact HA.out.symm), BW.out.trans (HB.out.mono BW.out.size)⟩
end Go.Proofs.Ytgcencilgpilaaa.Own
