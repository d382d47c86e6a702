/-
  Own texts, bundled: L3Look, L3Put, RunHeld, ExecOkI, StillTail, FreshMath, DoMath.
-/
import Derived.Test.YtokbakphfodabaaDoorPk4
import Derived.Deep.RegionLaw
import Derived.Deep.AppendLies
import Derived.StillTactics
import Derived.Laws.Pointers
import Derived.Test.YtokbakphfodabaaDoorPk2
import Derived.Test.YtokbakphfodabaaDoorPk1
import Derived.StillTailTactics
import Derived.BigQuiet
import Derived.Deep.QuietTactic
import Derived.Deep.Cut
import Derived.Deep.CutRange
namespace Go.Proofs.YtokbakphfodabaaDoor.Own
open Go.RowKit
set_option linter.unusedVariables false
set_option linter.unusedSimpArgs false

/-- What looking leaves. -/
def LookPost (bs xs ys : List P2) (j : Nat) (B : Nat) (rv pv : Value) (v k : Int) (w : World) (e : Ending) (w' : World) : Prop :=
  ∃ rv', e = .returned (.tuple #[.int .i64 (inBox bs ys j), .agg #[rv', pv, .int .i64 v, .int .i64 k]]) ∧ OwnP 101 w' B rv' (lookR bs xs ys j) ∧ OwnP 56 w' B pv ys ∧
    (rv'.ownBlock = none ∨ rv'.ownBlock ≠ pv.ownBlock) ∧ w.grownBy w' rv.ownBlock ∧ (∀ g, rv'.ownBlock = some g → rv.ownBlock = some g ∨ w.heap.size ≤ g)

theorem infoRead : (Tryd.prog.info? 101).map (fun i => (i.zero, i.size, i.bytes)) = some (some (.agg #[.int .i64 0, .int .i64 0]), 2, 16) := by kernel_rfl

set_option maxRecDepth 100000 in
set_option maxHeartbeats 4000000 in
theorem l3Look (la : Option Addr) (lc : Nat) (bs : List P2) (j : Nat) (rv pv : Value) (xs ys : List P2) (v k : Int) (B : Nat) (w : World)
    (hb : Sl w la bs) (hj : j < bs.length) (l0 : bs.length ≤ 2 ^ 40) (hla : ∀ x, la = some x → rv.ownBlock ≠ some x.block)
    (hr : OwnP 101 w B rv xs) (hp : OwnP 56 w B pv ys) (hd : rv.ownBlock = none ∨ rv.ownBlock ≠ pv.ownBlock) (hB : B ≤ w.heap.size) (lx : xs.length ≤ 1000) (ly : ys.length ≤ 1000) :
    Calls Tryd.prog 91 #[.slice la bs.length lc, .agg #[rv, pv, .int .i64 v, .int .i64 k], .int .i64 j] w fun e w' => LookPost bs xs ys j B rv pv v k w e w' := by
  obtain ⟨ar, cr, hrv, slr, hcr, hmr, hbr⟩ := hr.open
  obtain ⟨ap, cp, hpv, slp, hcp, hmp, hbp⟩ := hp.open
  have HR : Hid (OwnP 101 w B rv xs) := hr
  have HP : Hid (OwnP 56 w B pv ys) := hp
  have HD : Hid (rv.ownBlock = none ∨ rv.ownBlock ≠ pv.ownBlock) := hd
  have HLA : Hid (∀ x, la = some x → rv.ownBlock ≠ some x.block) := hla
  have HRV : Hid (rv = .slice ar xs.length cr) := hrv
  have HPV : Hid (pv = .slice ap ys.length cp) := hpv
  have SR : Hid (Sl w ar xs) := slr
  have SP : Hid (Sl w ap ys) := slp
  have SB : Hid (Sl w la bs) := hb
  clear hr hp hd hla slr slp hb hbr hbp hcr hcp hmr hmp
  obtain ⟨W, hW⟩ : ∃ W, W = (w.alloc (.cells #[.slice ar xs.length cr, .slice ap ys.length cp, .int .i64 v, .int .i64 k] 32)).alloc (.cells #[.slice none 0 0, .slice none 0 0, .int .i64 0, .int .i64 0] 32) := ⟨_, rfl⟩
  have BW : Hid (Below w.heap.size w W) := by show Below _ _ _; rw [hW]; exact ((Below.refl _ _).alloc (Nat.le_refl _) _).alloc (by simp) _
  have HSW : Hid (W.heap.size = w.heap.size + 2) := by show _ = _; rw [hW]; simp
  have hNW : w.heap.size + 1 < W.heap.size := by have := HSW.out; omega
  have hBW : B ≤ W.heap.size := by omega
  have g0 : Hid (W.heap[w.heap.size]? = some (.cells #[.slice ar xs.length cr, .slice ap ys.length cp, .int .i64 v, .int .i64 k] 32 (0, 0))) := by show _ = _; rw [hW]; exact heap_new1 _ _ _
  have g1 : Hid (W.heap[w.heap.size + 1]? = some (.cells #[.slice none 0 0, .slice none 0 0, .int .i64 0, .int .i64 0] 32 (0, 0))) := by show _ = _; rw [hW]; exact heap_new2 _ _ _
  have HW : Hid (W = _) := hW
  clear hW
  have q0 : W.cell? ⟨w.heap.size, 0, none⟩ = some (.slice ar xs.length cr) := by rw [cell_heap g0.out]; rfl
  have q1 : W.cell? ⟨w.heap.size, 1, none⟩ = some (.slice ap ys.length cp) := by rw [cell_heap g0.out]; rfl
  have q2 : W.cell? ⟨w.heap.size, 2, none⟩ = some (.int .i64 v) := by rw [cell_heap g0.out]; rfl
  have q3 : W.cell? ⟨w.heap.size, 3, none⟩ = some (.int .i64 k) := by rw [cell_heap g0.out]; rfl
  have z0 : W.cell? ⟨w.heap.size + 1, 0, none⟩ = some (.slice none 0 0) := by rw [cell_heap g1.out]; rfl
  have z1 : W.cell? ⟨w.heap.size + 1, 1, none⟩ = some (.slice none 0 0) := by rw [cell_heap g1.out]; rfl
  have z2 : W.cell? ⟨w.heap.size + 1, 2, none⟩ = some (.int .i64 0) := by rw [cell_heap g1.out]; rfl
  have z3 : W.cell? ⟨w.heap.size + 1, 3, none⟩ = some (.int .i64 0) := by rw [cell_heap g1.out]; rfl
  have fz : ∀ o, W.frozen? ⟨w.heap.size + 1, o, none⟩ = false := fun o => frozen_heap g1.out o
  have lR : Hid (∀ g, rv.ownBlock = some g → g < w.heap.size) := fun g hg => (World.ownsRow.lt HR.out g hg).2
  have lP : Hid (∀ g, pv.ownBlock = some g → g < w.heap.size) := fun g hg => (World.ownsRow.lt HP.out g hg).2
  -- where nothing but its own cells has turned
  have FIN : Hid (∀ W', W.grownBy W' (some (w.heap.size + 1)) → lookR bs xs ys j = xs → OwnP 101 W' B rv (lookR bs xs ys j) ∧ OwnP 56 W' B pv ys ∧ (rv.ownBlock = none ∨ rv.ownBlock ≠ pv.ownBlock) ∧ w.grownBy W' rv.ownBlock ∧ (∀ g, rv.ownBlock = some g → rv.ownBlock = some g ∨ w.heap.size ≤ g)) := fun W' hg hl => by
    have e : w.grownBy W' none := grNew (grBelow BW.out) hg (by omega)
    rw [hl]
    exact ⟨HR.out.keep e (by cases h : rv.ownBlock <;> simp), HP.out.keep e (by cases h : pv.ownBlock <;> simp), HD.out, grBut e _, fun g e => .inl e⟩
  rw [HRV.out, HPV.out]
  go_enter Tryd.func91, Tryd.ntmps91
  go_wp2_with fail
  rw [← HW.out]
  refine (l3At ap cp ys.length ys j W (SP.out.below BW.out) rfl (by omega)).mono ?_
  rintro e w1 ⟨rfl, hw⟩
  rw [hw]
  clear hw
  cases hy : hasBox ys j with
  | true =>
    obtain ⟨pe, pl⟩ := place_idx ys j hy
    rw [pe]
    have EI : Hid (inBox bs ys j = (ys.getD (idxBox ys j) (0, 0)).2) := by show _ = _; simp [inBox, hy]
    have EL : Hid (lookR bs xs ys j = xs) := by show _ = _; simp [lookR, hy]
    generalize idxBox ys j = m at pl EI
    clear pe hy
    rcases (SP.out.below BW.out) with h0 | ⟨b, off, rfl, hat⟩
    · rw [h0] at pl; simp at pl
    have cy := (hat.2 m pl).2
    rw [← EI.out] at cy
    clear hat
    have dm : decide ((0 : Int) ≤ (m : Int)) = true := by simp
    have hml : (m : Int) < ((ys.length : Nat) : Int) := by omega
    go_wp2
    go_region
    all_goals
      go_wp2
      refine bodyPost_ret (v := .tuple #[.int .i64 (inBox bs ys j), .agg #[.slice ar xs.length cr, .slice (some ⟨b, off, none⟩) ys.length cp, .int .i64 v, .int .i64 k]]) (by simp [results, Tryd.results91, go_sem, z0, z1, z2, z3]) rfl ⟨rv, by rw [HRV.out], ?_⟩
      rw [← HRV.out, ← HPV.out]
      refine FIN.out _ ?_ EL.out
      repeat (first | exact grR _ _ | apply grSet | apply grDrew | apply grDrewN)
  | false =>
    rw [place_no ys j hy]
    have EI : Hid (inBox bs ys j = (bs.getD j (0, 0)).2) := by show _ = _; simp [inBox, hy]
    have YN : Hid (hasBox ys j = false) := hy
    clear hy
    rcases SB.out with h0 | ⟨b, off, rfl, hat0⟩
    · rw [h0] at hj; simp at hj
    have hat := hat0.below BW.out
    have hbw : b < w.heap.size := hat0.1
    clear hat0
    have cv := (hat.2 j hj).1
    have cl := (hat.2 j hj).2
    have hbW : b < W.heap.size := hat.1
    rw [← EI.out] at cl
    obtain ⟨ver, hver⟩ : ∃ z, z = (bs.getD j (0, 0)).1 := ⟨_, rfl⟩
    rw [← hver] at cv
    have HV : Hid (ver = (bs.getD j (0, 0)).1) := hver
    clear hat hver
    have hjl : (j : Int) < ((bs.length : Nat) : Int) := by omega
    go_wp2_with fail
    refine (l3Saw ar cr xs.length xs j W (SR.out.below BW.out) rfl (by omega)).mono ?_
    rintro e w1 ⟨rfl, hw⟩
    rw [hw]
    clear hw
    cases hx : (xs.any fun p => p.1 == (j : Int)) with
    | true =>
      have EL : Hid (lookR bs xs ys j = xs) := by show _ = _; unfold lookR; rw [YN.out]; simp [show hasBox xs j = true from hx]
      clear hx
      go_wp2
      go_region
      all_goals
        go_wp2
        refine bodyPost_ret (v := .tuple #[.int .i64 (inBox bs ys j), .agg #[.slice ar xs.length cr, .slice ap ys.length cp, .int .i64 v, .int .i64 k]]) (by simp [results, Tryd.results91, go_sem, z0, z1, z2, z3]) rfl ⟨rv, by rw [HRV.out], ?_⟩
        rw [← HRV.out, ← HPV.out]
        refine FIN.out _ ?_ EL.out
        repeat (first | exact grR _ _ | apply grSet | apply grDrew | apply grDrewN)
    | false =>
      have EL : Hid (lookR bs xs ys j = xs ++ [((j : Int), ver)]) := by show _ = _; unfold lookR; rw [YN.out, HV.out]; simp [show hasBox xs j = false from hx]
      clear hx
      obtain ⟨i0, hi0, hz0, hz1, hz2⟩ := info_parts infoRead
      have HRW : Hid (W.ownsRow B 101 2 (.slice ar xs.length cr) xs.length (flat xs)) := by
        show W.ownsRow _ _ _ _ _ _
        rw [← HRV.out]; exact HR.out.below BW.out
      have OB : Hid (rv.ownBlock = (Value.slice ar xs.length cr).ownBlock) := by show _ = _; rw [HRV.out]
      have hN : Hid (xs.length + 1 ≤ maxLen) := by show _ ≤ _; unfold maxLen; omega
      have hBy : Hid ((xs.length + 1) * 16 ≤ 140737488355328) := by show _ ≤ _; omega
      have nN : Hid ((Value.slice ar xs.length cr).ownBlock ≠ some w.heap.size ∧ (Value.slice ar xs.length cr).ownBlock ≠ some (w.heap.size + 1) ∧ (Value.slice ar xs.length cr).ownBlock ≠ some b) := by
        show _ ∧ _
        rw [← OB.out]
        exact ⟨fun e => by have := lR.out _ e; omega, fun e => by have := lR.out _ e; omega, HLA.out _ rfl⟩
      have AFT : Hid (∀ w1 : World, W.grownBy w1 (Value.slice ar xs.length cr).ownBlock → w1.heap[w.heap.size]? = some (.cells #[.slice ar xs.length cr, .slice ap ys.length cp, .int .i64 v, .int .i64 k] 32 (0, 0)) ∧ w1.heap[w.heap.size + 1]? = some (.cells #[.slice none 0 0, .slice none 0 0, .int .i64 0, .int .i64 0] 32 (0, 0)) ∧ w1.cell? ⟨b, off + j * 2, none⟩ = some (.int .i64 ver) ∧ w1.cell? ⟨b, off + j * 2 + 1, none⟩ = some (.int .i64 (inBox bs ys j))) := fun w1 hg => by
        refine ⟨?_, ?_, ?_, ?_⟩
        · rw [hg.block _ (by omega) (Ne.symm nN.out.1)]; exact g0.out
        · rw [hg.block _ (by omega) (Ne.symm nN.out.2.1)]; exact g1.out
        · rw [hg.cell_far ⟨b, off + j * 2, none⟩ hbW (Ne.symm nN.out.2.2)]; exact cv
        · rw [hg.cell_far ⟨b, off + j * 2 + 1, none⟩ hbW (Ne.symm nN.out.2.2)]; exact cl
      have FIN2 : Hid (∀ (w1 : World) (gg cap : Nat), W.grownBy w1 (Value.slice ar xs.length cr).ownBlock → w1.ownsRow B 101 2 (.slice (some ⟨gg, 0, none⟩) (xs.length + 1) cap) (xs.length + 1) (flat xs ++ [.int .i64 j, .int .i64 ver]) → ((Value.slice ar xs.length cr).ownBlock = some gg ∨ gg = W.heap.size + 1) → ∀ W', (w1.setCell ⟨w.heap.size, 0, none⟩ (.slice (some ⟨gg, 0, none⟩) (xs.length + 1) cap)).grownBy W' (some (w.heap.size + 1)) → OwnP 101 W' B (.slice (some ⟨gg, 0, none⟩) (xs.length + 1) cap) (lookR bs xs ys j) ∧ OwnP 56 W' B pv ys ∧ ((Value.slice (some ⟨gg, 0, none⟩) (xs.length + 1) cap).ownBlock = none ∨ (Value.slice (some ⟨gg, 0, none⟩) (xs.length + 1) cap).ownBlock ≠ pv.ownBlock) ∧ w.grownBy W' rv.ownBlock ∧ (∀ g, (Value.slice (some ⟨gg, 0, none⟩) (xs.length + 1) cap).ownBlock = some g → rv.ownBlock = some g ∨ w.heap.size ≤ g)) := by
        intro w1 gg cap hg ho hat W' hk
        have s1 : w1.grownBy (w1.setCell ⟨w.heap.size, 0, none⟩ (.slice (some ⟨gg, 0, none⟩) (xs.length + 1) cap)) (some w.heap.size) := grSet (grR _ _) _
        have hgg : gg ≠ w.heap.size ∧ gg ≠ w.heap.size + 1 ∧ (∀ q, pv.ownBlock = some q → gg ≠ q) := by
          rcases hat with h | h
          · rw [← OB.out] at h
            have := lR.out _ h
            refine ⟨by omega, by omega, fun q hq e => ?_⟩
            rcases HD.out with h' | h'
            · rw [h] at h'; cases h'
            · exact h' (by rw [h, hq, e])
          · refine ⟨by omega, by omega, fun q hq e => ?_⟩
            have := lP.out _ hq
            omega
        refine ⟨?_, ?_, ?_, ?_, ?_⟩
        · have o : OwnP 101 w1 B (.slice (some ⟨gg, 0, none⟩) (xs.length + 1) cap) (xs ++ [((j : Int), ver)]) := by
            unfold OwnP
            rw [List.length_append, flat_snocP]
            exact ho
          rw [EL.out]
          refine (o.keep s1 (.inr ?_)).keep hk (.inr ?_)
          · intro e; injection e with e; exact hgg.1 e
          · intro e; injection e with e; exact hgg.2.1 e
        · refine (((HP.out.below BW.out).keep hg ?_).keep s1 ?_).keep hk ?_
          · rw [← OB.out]
            rcases HD.out with h' | h'
            · rw [h']; cases pv.ownBlock <;> simp
            · exact .inr (Ne.symm h')
          · cases h : pv.ownBlock with
            | none => exact .inl rfl
            | some q => refine .inr fun e => ?_; injection e with e; have := lP.out _ h; omega
          · cases h : pv.ownBlock with
            | none => exact .inl rfl
            | some q => refine .inr fun e => ?_; injection e with e; have := lP.out _ h; omega
        · refine .inr fun e => ?_
          exact hgg.2.2 gg e.symm rfl
        · rw [OB.out]
          exact grNew (grNew ((grBelow BW.out).trans hg) s1 (Nat.le_refl _)) hk (by omega)
        · intro g e
          have e' : gg = g := Option.some.inj e
          subst e'
          rcases hat with h | h
          · exact .inl (by rw [OB.out]; exact h)
          · exact .inr (by omega)
      have qa : (W.alloc (.cells #[.int .i64 j, .int .i64 ver] 101)).cell? ⟨w.heap.size, 0, none⟩ = some (.slice ar xs.length cr) := (World.cell?_of_block (w := W) (a := ⟨w.heap.size, 0, none⟩) (heap_old _ _ _ (by show w.heap.size < _; omega))).trans q0
      go_wp2_with fail
      go_region_law ((refine step_append_lies _ (by rfl) _ _ _ (by rfl) B 101 i0 _ 2 16 Tryd.underlying29 hi0 hz0 hz1 hz2 rfl (by omega) (.slice ar xs.length cr) xs.length (flat xs) (by rfl) ((HRW.out.alloc _).drew) ⟨W.heap.size, 0, none⟩ 1 1 [.int .i64 j, .int .i64 ver] (by rfl) (by rfl) (World.news_of_block (cs := #[.int .i64 j, .int .i64 ver]) (t := 101) (fr := (0, 0)) (heap_alloc_new W _)) (by simp [Value.oneCell']) (by omega) hN.out hBy.out (by simp; omega) (W.heap.size + 1) (by simp) ?_; intro gg cap w1 hown1 hgrow hat hlt; have GW : W.grownBy w1 (Value.slice ar xs.length cr).ownBlock := World.grownBy.trans (grDrew (grAlloc (grR W _) _)) hgrow; have f0 : w1.frozen? ⟨w.heap.size, 0, none⟩ = false := frozen_heap (AFT.out w1 GW).1 0; have c0 : w1.cell? ⟨w.heap.size, 0, none⟩ = some (.slice ar xs.length cr) := (cell_heap (AFT.out w1 GW).1 0).trans rfl))
      all_goals
        obtain ⟨G0, G1, cv1, cl1⟩ := AFT.out w1 GW
        have c1 : w1.cell? ⟨w.heap.size, 1, none⟩ = some (.slice ap ys.length cp) := (cell_heap G0 1).trans rfl
        have c2 : w1.cell? ⟨w.heap.size, 2, none⟩ = some (.int .i64 v) := (cell_heap G0 2).trans rfl
        have c3 : w1.cell? ⟨w.heap.size, 3, none⟩ = some (.int .i64 k) := (cell_heap G0 3).trans rfl
        have y0 : w1.cell? ⟨w.heap.size + 1, 0, none⟩ = some (.slice none 0 0) := (cell_heap G1 0).trans rfl
        have y1 : w1.cell? ⟨w.heap.size + 1, 1, none⟩ = some (.slice none 0 0) := (cell_heap G1 1).trans rfl
        have y2 : w1.cell? ⟨w.heap.size + 1, 2, none⟩ = some (.int .i64 0) := (cell_heap G1 2).trans rfl
        have y3 : w1.cell? ⟨w.heap.size + 1, 3, none⟩ = some (.int .i64 0) := (cell_heap G1 3).trans rfl
        have fy : ∀ o, w1.frozen? ⟨w.heap.size + 1, o, none⟩ = false := fun o => frozen_heap G1 o
        have F2 := FIN2.out w1 gg cap GW hown1 hat
        have F3 : Hid _ := F2
        have bn : ¬ b = w.heap.size := by omega
        have bn' : ¬ w.heap.size = b := by omega
        clear G0 G1 hown1 hgrow hat hlt F2
        go_wp2
        go_region
        all_goals
          go_wp2
          refine bodyPost_ret (v := .tuple #[.int .i64 (inBox bs ys j), .agg #[.slice (some ⟨gg, 0, none⟩) (xs.length + 1) cap, .slice ap ys.length cp, .int .i64 v, .int .i64 k]]) (by simp [results, Tryd.results91, go_sem, y0, y1, y2, y3]) rfl ⟨_, rfl, ?_⟩
          rw [← HRV.out, ← HPV.out]
          refine F3.out _ ?_
          repeat (first | exact grR _ _ | apply grSet | apply grDrew | apply grDrewN)
end Go.Proofs.YtokbakphfodabaaDoor.Own

namespace Go.Proofs.YtokbakphfodabaaDoor.Own
open Go.RowKit
set_option linter.unusedVariables false
set_option linter.unusedSimpArgs false

theorem OwnP.frozen {t : TypeId} {w : World} {B g n cap : Nat} {xs : List P2} (h : w.ownsRow B t 2 (.slice (some ⟨g, 0, none⟩) n cap) n (flat xs)) (o : Nat) : w.frozen? ⟨g, o, none⟩ = false := by
  obtain ⟨h1, h2⟩ := h
  rcases h2 with ⟨hv, h0⟩ | ⟨g', cap', cur, hv, hg, hh, r⟩
  · cases hv
  · injection hv with e1 e2 e3
    injection e1 with e1
    injection e1 with e1
    subst e1
    exact frozen_heap hh o

/-- What putting leaves. -/
def PutPost (xs ys : List P2) (j : Nat) (n : Int) (B : Nat) (rv pv : Value) (v k : Int) (w : World) (e : Ending) (w' : World) : Prop :=
  ∃ pv', e = .returned (.agg #[rv, pv', .int .i64 v, .int .i64 k]) ∧ OwnP 101 w' B rv xs ∧ OwnP 56 w' B pv' (putP ys j n) ∧
    (rv.ownBlock = none ∨ rv.ownBlock ≠ pv'.ownBlock) ∧ w.grownBy w' pv.ownBlock ∧ (∀ g, pv'.ownBlock = some g → pv.ownBlock = some g ∨ w.heap.size ≤ g)

theorem infoPut : (Tryd.prog.info? 56).map (fun i => (i.zero, i.size, i.bytes)) = some (some (.agg #[.int .i64 0, .int .i64 0]), 2, 16) := by kernel_rfl

set_option maxRecDepth 100000 in
set_option maxHeartbeats 4000000 in
theorem l3Put (j : Nat) (n : Int) (rv pv : Value) (xs ys : List P2) (v k : Int) (B : Nat) (w : World)
    (hr : OwnP 101 w B rv xs) (hp : OwnP 56 w B pv ys) (hd : rv.ownBlock = none ∨ rv.ownBlock ≠ pv.ownBlock) (hB : B ≤ w.heap.size) (ly : ys.length ≤ 1000) :
    Calls Tryd.prog 92 #[.agg #[rv, pv, .int .i64 v, .int .i64 k], .int .i64 j, .int .i64 n] w fun e w' => PutPost xs ys j n B rv pv v k w e w' := by
  obtain ⟨ar, cr, hrv, slr, hcr, hmr, hbr⟩ := hr.open
  obtain ⟨ap, cp, hpv, slp, hcp, hmp, hbp⟩ := hp.open
  have HR : Hid (OwnP 101 w B rv xs) := hr
  have HP : Hid (OwnP 56 w B pv ys) := hp
  have HD : Hid (rv.ownBlock = none ∨ rv.ownBlock ≠ pv.ownBlock) := hd
  have HRV : Hid (rv = .slice ar xs.length cr) := hrv
  have HPV : Hid (pv = .slice ap ys.length cp) := hpv
  have SP : Hid (Sl w ap ys) := slp
  have HBP : Hid (∀ x, ap = some x → pv.ownBlock = some x.block ∧ x.off = 0 ∧ x.spot = none) := hbp
  clear hr hp hd slr slp hbr hbp hcr hcp hmr hmp
  obtain ⟨W, hW⟩ : ∃ W, W = (w.alloc (.cells #[.slice ar xs.length cr, .slice ap ys.length cp, .int .i64 v, .int .i64 k] 32)).alloc (.cells #[.slice none 0 0, .slice none 0 0, .int .i64 0, .int .i64 0] 32) := ⟨_, rfl⟩
  have BW : Hid (Below w.heap.size w W) := by show Below _ _ _; rw [hW]; exact ((Below.refl _ _).alloc (Nat.le_refl _) _).alloc (by simp) _
  have HSW : Hid (W.heap.size = w.heap.size + 2) := by show _ = _; rw [hW]; simp
  have hNW : w.heap.size + 1 < W.heap.size := by have := HSW.out; omega
  have hBW : B ≤ W.heap.size := by omega
  have g0 : Hid (W.heap[w.heap.size]? = some (.cells #[.slice ar xs.length cr, .slice ap ys.length cp, .int .i64 v, .int .i64 k] 32 (0, 0))) := by show _ = _; rw [hW]; exact heap_new1 _ _ _
  have g1 : Hid (W.heap[w.heap.size + 1]? = some (.cells #[.slice none 0 0, .slice none 0 0, .int .i64 0, .int .i64 0] 32 (0, 0))) := by show _ = _; rw [hW]; exact heap_new2 _ _ _
  have HW : Hid (W = _) := hW
  clear hW
  have q0 : W.cell? ⟨w.heap.size, 0, none⟩ = some (.slice ar xs.length cr) := by rw [cell_heap g0.out]; rfl
  have q1 : W.cell? ⟨w.heap.size, 1, none⟩ = some (.slice ap ys.length cp) := by rw [cell_heap g0.out]; rfl
  have q2 : W.cell? ⟨w.heap.size, 2, none⟩ = some (.int .i64 v) := by rw [cell_heap g0.out]; rfl
  have q3 : W.cell? ⟨w.heap.size, 3, none⟩ = some (.int .i64 k) := by rw [cell_heap g0.out]; rfl
  have z0 : W.cell? ⟨w.heap.size + 1, 0, none⟩ = some (.slice none 0 0) := by rw [cell_heap g1.out]; rfl
  have z1 : W.cell? ⟨w.heap.size + 1, 1, none⟩ = some (.slice none 0 0) := by rw [cell_heap g1.out]; rfl
  have z2 : W.cell? ⟨w.heap.size + 1, 2, none⟩ = some (.int .i64 0) := by rw [cell_heap g1.out]; rfl
  have z3 : W.cell? ⟨w.heap.size + 1, 3, none⟩ = some (.int .i64 0) := by rw [cell_heap g1.out]; rfl
  have fz : ∀ o, W.frozen? ⟨w.heap.size + 1, o, none⟩ = false := fun o => frozen_heap g1.out o
  have lR : Hid (∀ g, rv.ownBlock = some g → g < w.heap.size) := fun g hg => (World.ownsRow.lt HR.out g hg).2
  have lP : Hid (∀ g, pv.ownBlock = some g → g < w.heap.size) := fun g hg => (World.ownsRow.lt HP.out g hg).2
  rw [HRV.out, HPV.out]
  go_enter Tryd.func92, Tryd.ntmps92
  go_wp2_with fail
  rw [← HW.out]
  refine (l3At ap cp ys.length ys j W (SP.out.below BW.out) rfl (by omega)).mono ?_
  rintro e w1 ⟨rfl, hw⟩
  rw [hw]
  clear hw
  cases hy : hasBox ys j with
  | true =>
    obtain ⟨pe, pl⟩ := place_idx ys j hy
    rw [pe]
    have EP : Hid (putP ys j n = ys.set (idxBox ys j) ((ys.getD (idxBox ys j) (0, 0)).1, n)) := by show _ = _; simp [putP, hy]
    generalize idxBox ys j = m at pl EP
    clear pe hy
    rcases SP.out with h0 | ⟨b, off, rfl, hat0⟩
    · rw [h0] at pl; simp at pl
    obtain ⟨ob, h0, _⟩ := HBP.out _ rfl
    dsimp only at ob h0
    subst h0
    have hbw : b < w.heap.size := hat0.1
    have HPW : Hid (OwnP 56 W B (.slice (some ⟨b, 0, none⟩) ys.length cp) ys) := by
      show OwnP _ _ _ _ _
      rw [← HPV.out]; exact HP.out.below BW.out
    have cy := ((hat0.below BW.out).2 m pl).2
    rw [Nat.zero_add] at cy
    have fb : ∀ o, W.frozen? ⟨b, o, none⟩ = false := fun o => OwnP.frozen HPW.out o
    clear hat0
    have dm : decide ((0 : Int) ≤ (m : Int)) = true := by simp
    have hml : (m : Int) < ((ys.length : Nat) : Int) := by omega
    have bn : ¬ b = w.heap.size := by omega
    have bn' : ¬ w.heap.size = b := by omega
    have bm : ¬ b = w.heap.size + 1 := by omega
    have bm' : ¬ w.heap.size + 1 = b := by omega
    have FIN : Hid (∀ W', (W.setCell ⟨b, m * 2 + 1, none⟩ (.int .i64 n)).grownBy W' (some (w.heap.size + 1)) → OwnP 101 W' B rv xs ∧ OwnP 56 W' B (.slice (some ⟨b, 0, none⟩) ys.length cp) (putP ys j n) ∧ (rv.ownBlock = none ∨ rv.ownBlock ≠ (Value.slice (some ⟨b, 0, none⟩) ys.length cp).ownBlock) ∧ w.grownBy W' pv.ownBlock ∧ (∀ g, (Value.slice (some ⟨b, 0, none⟩) ys.length cp).ownBlock = some g → pv.ownBlock = some g ∨ w.heap.size ≤ g)) := by
      intro W' hk
      have s1 : W.grownBy (W.setCell ⟨b, m * 2 + 1, none⟩ (.int .i64 n)) (some b) := grSet (grR _ _) _
      refine ⟨?_, ?_, ?_, ?_, ?_⟩
      · refine ((HR.out.below BW.out).keep s1 ?_).keep hk ?_
        · rw [← ob]; exact HD.out
        · cases h : rv.ownBlock with
          | none => exact .inl rfl
          | some q => refine .inr fun e => ?_; injection e with e; have := lR.out _ h; omega
      · have o := (HPW.out.set m pl n)
        rw [EP.out]
        have o2 : OwnP 56 W' B (.slice (some ⟨b, 0, none⟩) ys.length cp) (ys.set m ((ys.getD m (0, 0)).1, n)) := o.keep hk (.inr fun e => by injection e with e; exact bm e)
        exact o2
      · show _ ∨ rv.ownBlock ≠ some b
        rw [← ob]; exact HD.out
      · rw [ob]; exact grNew ((grBelow BW.out).trans s1) hk (by omega)
      · intro g e; exact .inl (by rw [ob]; exact e)
    have FIN' : Hid (∀ W', (W.setCell ⟨b, m * 2 + 1, none⟩ (.int .i64 n)).grownBy W' (some (w.heap.size + 1)) → OwnP 101 W' B rv xs ∧ OwnP 56 W' B pv (putP ys j n) ∧ (rv.ownBlock = none ∨ rv.ownBlock ≠ pv.ownBlock) ∧ w.grownBy W' pv.ownBlock ∧ (∀ g, pv.ownBlock = some g → pv.ownBlock = some g ∨ w.heap.size ≤ g)) := fun W' hk => by
      have F := FIN.out W' hk
      rw [← HPV.out] at F
      exact F
    go_wp2
    refine bodyPost_ret (v := .agg #[.slice ar xs.length cr, .slice (some ⟨b, 0, none⟩) ys.length cp, .int .i64 v, .int .i64 k]) (by simp [results, Tryd.results92, go_sem, z0, z1, z2, z3, bm, bm']) rfl ⟨_, rfl, ?_⟩
    rw [← HRV.out, ← HPV.out]
    refine FIN'.out _ ?_
    repeat (first | exact grR _ _ | apply grSet | apply grDrew | apply grDrewN)
  | false =>
    rw [place_no ys j hy]
    have EP : Hid (putP ys j n = ys ++ [((j : Int), n)]) := by show _ = _; simp [putP, hy]
    clear hy
    obtain ⟨i0, hi0, hz0, hz1, hz2⟩ := info_parts infoPut
    have I0 : Hid (Tryd.prog.info? 56 = some i0 ∧ i0.zero = some (.agg #[.int .i64 0, .int .i64 0]) ∧ i0.size = 2 ∧ i0.bytes = 16) := ⟨hi0, hz0, hz1, hz2⟩
    clear hi0 hz0 hz1 hz2
    have HPW : Hid (W.ownsRow B 56 2 (.slice ap ys.length cp) ys.length (flat ys)) := by
      show W.ownsRow _ _ _ _ _ _
      rw [← HPV.out]; exact HP.out.below BW.out
    have OB : Hid (pv.ownBlock = (Value.slice ap ys.length cp).ownBlock) := by show _ = _; rw [HPV.out]
    have hN : Hid (ys.length + 1 ≤ maxLen) := by show _ ≤ _; unfold maxLen; omega
    have hBy : Hid ((ys.length + 1) * 16 ≤ 140737488355328) := by show _ ≤ _; omega
    have hBs : Hid (B ≤ (W.alloc (.cells #[.int .i64 j, .int .i64 n] 56)).heap.size) := by show _ ≤ _; rw [size_new]; omega
    go_wp2_with (at_builtin; refine wpList_append_lies _ rfl (.tmp 22) (.tmp 26) 30 rfl B 56 i0 (.agg #[.int .i64 0, .int .i64 0]) 2 16 Tryd.underlying30 I0.out.1 I0.out.2.1 I0.out.2.2.1 I0.out.2.2.2 rfl (by decide) (.slice ap ys.length cp) ys.length (flat ys) rfl (HPW.out.alloc _) ⟨W.heap.size, 0, none⟩ 1 1 [.int .i64 j, .int .i64 n] rfl rfl (World.news_of_block (cs := #[.int .i64 j, .int .i64 n]) (t := 56) (fr := (0, 0)) (heap_alloc_new W _)) (by simp [Value.oneCell']) (by decide) hN.out hBy.out hBs.out (W.heap.size + 1) (size_new _ _) ?_)
    intro gg cap w1 hown1 hgrow hat hlt
    have GW : W.grownBy w1 (Value.slice ap ys.length cp).ownBlock := World.grownBy.trans (grAlloc (grR W _) _) hgrow
    have nN : (Value.slice ap ys.length cp).ownBlock ≠ some w.heap.size ∧ (Value.slice ap ys.length cp).ownBlock ≠ some (w.heap.size + 1) := by
      rw [← OB.out]
      exact ⟨fun e => by have := lP.out _ e; omega, fun e => by have := lP.out _ e; omega⟩
    have G0 : w1.heap[w.heap.size]? = some (.cells #[.slice ar xs.length cr, .slice ap ys.length cp, .int .i64 v, .int .i64 k] 32 (0, 0)) := by rw [GW.block _ (by omega) (Ne.symm nN.1)]; exact g0.out
    have G1 : w1.heap[w.heap.size + 1]? = some (.cells #[.slice none 0 0, .slice none 0 0, .int .i64 0, .int .i64 0] 32 (0, 0)) := by rw [GW.block _ (by omega) (Ne.symm nN.2)]; exact g1.out
    have c0 : w1.cell? ⟨w.heap.size, 0, none⟩ = some (.slice ar xs.length cr) := (cell_heap G0 0).trans rfl
    have c1 : w1.cell? ⟨w.heap.size, 1, none⟩ = some (.slice ap ys.length cp) := (cell_heap G0 1).trans rfl
    have c2 : w1.cell? ⟨w.heap.size, 2, none⟩ = some (.int .i64 v) := (cell_heap G0 2).trans rfl
    have c3 : w1.cell? ⟨w.heap.size, 3, none⟩ = some (.int .i64 k) := (cell_heap G0 3).trans rfl
    have y0 : w1.cell? ⟨w.heap.size + 1, 0, none⟩ = some (.slice none 0 0) := (cell_heap G1 0).trans rfl
    have y1 : w1.cell? ⟨w.heap.size + 1, 1, none⟩ = some (.slice none 0 0) := (cell_heap G1 1).trans rfl
    have y2 : w1.cell? ⟨w.heap.size + 1, 2, none⟩ = some (.int .i64 0) := (cell_heap G1 2).trans rfl
    have y3 : w1.cell? ⟨w.heap.size + 1, 3, none⟩ = some (.int .i64 0) := (cell_heap G1 3).trans rfl
    have fx : ∀ o, w1.frozen? ⟨w.heap.size, o, none⟩ = false := fun o => frozen_heap G0 o
    have fy : ∀ o, w1.frozen? ⟨w.heap.size + 1, o, none⟩ = false := fun o => frozen_heap G1 o
    have FIN : Hid (∀ W', (w1.setCell ⟨w.heap.size, 1, none⟩ (.slice (some ⟨gg, 0, none⟩) (ys.length + 1) cap)).grownBy W' (some (w.heap.size + 1)) → OwnP 101 W' B rv xs ∧ OwnP 56 W' B (.slice (some ⟨gg, 0, none⟩) (ys.length + 1) cap) (putP ys j n) ∧ (rv.ownBlock = none ∨ rv.ownBlock ≠ (Value.slice (some ⟨gg, 0, none⟩) (ys.length + 1) cap).ownBlock) ∧ w.grownBy W' pv.ownBlock ∧ (∀ g, (Value.slice (some ⟨gg, 0, none⟩) (ys.length + 1) cap).ownBlock = some g → pv.ownBlock = some g ∨ w.heap.size ≤ g)) := by
      intro W' hk
      have s1 : w1.grownBy (w1.setCell ⟨w.heap.size, 1, none⟩ (.slice (some ⟨gg, 0, none⟩) (ys.length + 1) cap)) (some w.heap.size) := grSet (grR _ _) _
      have hgg : gg ≠ w.heap.size ∧ gg ≠ w.heap.size + 1 ∧ (∀ q, rv.ownBlock = some q → q ≠ gg) := by
        rcases hat with h | h
        · rw [← OB.out] at h
          have := lP.out _ h
          refine ⟨by omega, by omega, fun q hq e => ?_⟩
          rcases HD.out with h' | h'
          · rw [hq] at h'; cases h'
          · exact h' (by rw [h, hq, e])
        · refine ⟨by omega, by omega, fun q hq e => ?_⟩
          have := lR.out _ hq
          omega
      refine ⟨?_, ?_, ?_, ?_, ?_⟩
      · refine (((HR.out.below BW.out).keep GW ?_).keep s1 ?_).keep hk ?_
        · rw [← OB.out]; exact HD.out
        · cases h : rv.ownBlock with
          | none => exact .inl rfl
          | some q => refine .inr fun e => ?_; injection e with e; have := lR.out _ h; omega
        · cases h : rv.ownBlock with
          | none => exact .inl rfl
          | some q => refine .inr fun e => ?_; injection e with e; have := lR.out _ h; omega
      · have o : OwnP 56 w1 B (.slice (some ⟨gg, 0, none⟩) (ys.length + 1) cap) (ys ++ [((j : Int), n)]) := by
          unfold OwnP
          rw [List.length_append, flat_snocP]
          exact hown1
        rw [EP.out]
        refine (o.keep s1 (.inr ?_)).keep hk (.inr ?_)
        · intro e; injection e with e; exact hgg.1 e
        · intro e; injection e with e; exact hgg.2.1 e
      · refine .inr fun e => ?_
        exact hgg.2.2 gg e rfl
      · rw [OB.out]
        exact grNew (grNew ((grBelow BW.out).trans GW) s1 (Nat.le_refl _)) hk (by omega)
      · intro g e
        have e' : gg = g := Option.some.inj e
        subst e'
        rcases hat with h | h
        · exact .inl (by rw [OB.out]; exact h)
        · exact .inr (by omega)
    clear hown1 hgrow hat hlt GW nN G0 G1
    go_wp2
    refine bodyPost_ret (v := .agg #[.slice ar xs.length cr, .slice (some ⟨gg, 0, none⟩) (ys.length + 1) cap, .int .i64 v, .int .i64 k]) (by simp [results, Tryd.results92, go_sem, y0, y1, y2, y3]) rfl ⟨_, rfl, ?_⟩
    rw [← HRV.out, ← HPV.out]
    refine FIN.out _ ?_
    repeat (first | exact grR _ _ | apply grSet | apply grDrew | apply grDrewN)
end Go.Proofs.YtokbakphfodabaaDoor.Own

namespace Go.Proofs.YtokbakphfodabaaDoor.Own
open Go.RowKit
set_option linter.unusedVariables false

theorem Turned.set {L : List Nat} {a b : World} {p : Addr} (h : Turned L a b) (hp : p.block ∈ L) (v : Value) : Turned L a (b.setCell p v) :=
  ⟨h.os, h.tape, h.output, by simpa [World.setCell] using h.size, fun i hi hn => by rw [Below.heap_setCell _ _ _ _ (fun e => hn (by rw [e]; exact hp))]; exact h.block i hi hn⟩
theorem Turned.alloc {L : List Nat} {a b : World} (h : Turned L a b) (o : Obj) : Turned L a (b.alloc o) := h.trans (Turned.ofBelow (below_new _ _))
theorem Turned.drew {L : List Nat} {a b : World} (h : Turned L a b) : Turned L a b.drew := h.trans ⟨rfl, rfl, rfl, Nat.le_refl _, fun _ _ _ => rfl⟩
theorem Turned.drewN {L : List Nat} {a b : World} (h : Turned L a b) (n : Nat) : Turned L a (b.drewN n) := h.trans ⟨rfl, rfl, rfl, Nat.le_refl _, fun _ _ _ => rfl⟩
theorem Turned.ofGrown {L : List Nat} {w w' : World} {row : Option Nat} (h : w.grownBy w' row) (hr : ∀ g, row = some g → g ∈ L) : Turned L w w' :=
  ⟨h.os, h.tape, h.output, h.size, fun k hk hn => h.block k hk (fun e => hn (hr k e.symm))⟩
theorem OwnP.turned {L : List Nat} {t : TypeId} {w w' : World} {B : Nat} {v : Value} {xs : List P2} (h : OwnP t w B v xs) (ht : Turned L w w') (hv : ∀ g, v.ownBlock = some g → g ∉ L) : OwnP t w' B v xs := by
  obtain ⟨h1, h2⟩ := h
  refine ⟨h1, ?_⟩
  rcases h2 with h2 | ⟨g, cap, cur, e, hg, hh, r⟩
  · exact .inl h2
  · exact .inr ⟨g, cap, cur, e, hg, by rw [ht.block g (Array.getElem?_eq_some_iff.1 hh).1 (hv g (by rw [e]; rfl))]; exact hh, r⟩
theorem IntAt.turned {L : List Nat} {w w' : World} {b off : Nat} {xs : List Int} (h : IntAt w b off xs) (ht : Turned L w w') (hb : b ∉ L) : IntAt w' b off xs :=
  h.congr (Nat.lt_of_lt_of_le h.1 ht.size) (fun o => World.cell?_of_block (w := w) (a := ⟨b, o, none⟩) (ht.block b h.1 hb))
theorem IntAt.set0 {w : World} {b : Nat} {xs : List Int} (h : IntAt w b 0 xs) (i : Nat) (hi : i < xs.length) (n : Int) : IntAt (w.setCell ⟨b, i, none⟩ (.int .i64 n)) b 0 (xs.set i n) := by
  refine ⟨by simpa [World.setCell] using h.1, fun j hj => ?_⟩
  rw [List.length_set] at hj
  have hx := h.2 j hj
  rw [Nat.zero_add] at hx ⊢
  by_cases e : i = j
  · subst e
    rw [setCell_cell_same _ _ _ _ _ hx]
    simp [List.getD, hi]
  · rw [setCell_cell_other _ _ _ _ _ e, hx]
    simp [List.getD, e]

/-- Of the blocks below B none but rg has turned. -/
structure Kp (B rg : Nat) (w w' : World) : Prop where
  os : w'.os = w.os
  tape : w'.tape = w.tape
  output : w'.output = w.output
  size : w.heap.size ≤ w'.heap.size
  block : ∀ k, k < B → k ≠ rg → w'.heap[k]? = w.heap[k]?
theorem Kp.refl (B rg : Nat) (w : World) : Kp B rg w w := ⟨rfl, rfl, rfl, Nat.le_refl _, fun _ _ _ => rfl⟩
theorem Kp.trans {B rg : Nat} {a b c : World} (h : Kp B rg a b) (k : Kp B rg b c) : Kp B rg a c :=
  ⟨k.os.trans h.os, k.tape.trans h.tape, k.output.trans h.output, Nat.le_trans h.size k.size, fun i hi hn => (k.block i hi hn).trans (h.block i hi hn)⟩
theorem Turned.kp {L : List Nat} {w w' : World} {B rg : Nat} (h : Turned L w w') (hB : B ≤ w.heap.size) (hL : ∀ x, x ∈ L → B ≤ x ∨ x = rg) : Kp B rg w w' :=
  ⟨h.os, h.tape, h.output, h.size, fun k hk hn => h.block k (by omega) (fun e => by rcases hL k e with h | h <;> omega)⟩

/-- A run under way: its registers in block rg, what it looked into and what it would put in rows of its own from B on. -/
structure Held (B rg : Nat) (w : World) (rv pv : Value) (s : RunSt) : Prop where
  regs : IntAt w rg 0 s.regs
  four : s.regs.length = 4
  free : ∀ o, w.frozen? ⟨rg, o, none⟩ = false
  reads : OwnP 101 w B rv s.reads
  puts : OwnP 56 w B pv s.puts
  apart : rv.ownBlock = none ∨ rv.ownBlock ≠ pv.ownBlock

theorem Held.turned {L : List Nat} {B rg : Nat} {w w' : World} {rv pv : Value} {s : RunSt} (h : Held B rg w rv pv s) (ht : Turned L w w') (hg : rg ∉ L) (hr : ∀ g, rv.ownBlock = some g → g ∉ L) (hp : ∀ g, pv.ownBlock = some g → g ∉ L) : Held B rg w' rv pv s :=
  ⟨h.regs.turned ht hg, h.four, fun o => by rw [World.frozen?_of_block (w := w) (a := ⟨rg, o, none⟩) (ht.block rg h.regs.1 hg)]; exact h.free o, h.reads.turned ht hr, h.puts.turned ht hp, h.apart⟩
theorem Held.setR {B rg : Nat} {w : World} {rv pv : Value} {s : RunSt} (h : Held B rg w rv pv s) (hg : rg < B) (a : Nat) (ha : a < 4) (n : Int) : Held B rg (w.setCell ⟨rg, a, none⟩ (.int .i64 n)) rv pv (setReg s a n) := by
  have e : Turned [rg] w (w.setCell ⟨rg, a, none⟩ (.int .i64 n)) := (Turned.refl _ _).set (by simp) _
  refine ⟨h.regs.set0 a (by rw [h.four]; exact ha) n, by simp [setReg, h.four], fun o => by simpa using h.free o, h.reads.turned e (fun g e => ?_), h.puts.turned e (fun g e => ?_), h.apart⟩
  · have := (World.ownsRow.lt h.reads g e).1; simp; omega
  · have := (World.ownsRow.lt h.puts g e).1; simp; omega
theorem Held.code {B rg : Nat} {w : World} {rv pv : Value} {s : RunSt} (h : Held B rg w rv pv s) (c : Int) : Held B rg w rv pv { s with code := c } := ⟨h.regs, h.four, h.free, h.reads, h.puts, h.apart⟩
end Go.Proofs.YtokbakphfodabaaDoor.Own

namespace Go.Proofs.YtokbakphfodabaaDoor.Own
open Go.RowKit
set_option linter.unusedVariables false
set_option linter.unusedSimpArgs false

set_option maxHeartbeats 400000 in
theorem isNumberC (n : Int) (w : World) : Calls Tryd.prog 87 #[.int .i64 n] w fun e w' => e = .returned (.bool (numOk n)) ∧ w' = w := by
  have e : Hid (numOk n = (decide (-1000000 ≤ n) && decide (n ≤ 1000000))) := rfl
  by_cases h1 : -1000000 ≤ n
  · by_cases h2 : n ≤ 1000000
    all_goals
      go_enter Tryd.func87, Tryd.ntmps87
      go_wp2
      go_ret
      exact ⟨ret_bool (by rw [e.out]; simp [h1, h2]), rfl⟩
  · have h1' : decide (-1000000 ≤ n) = false := by simpa using h1
    go_enter Tryd.func87, Tryd.ntmps87
    go_wp2
    go_ret
    exact ⟨ret_bool (by rw [e.out, h1']; rfl), rfl⟩

set_option maxHeartbeats 400000 in
theorem firstYes (b off j : Nat) (w : World) (hj : j < 4) (hc : w.cell? ⟨b, off + j, none⟩ = some (.bool false)) (hf : w.frozen? ⟨b, off + j, none⟩ = false) :
    Calls Tryd.prog 138 #[.pointer (some ⟨b, off, none⟩), .int .i64 j] w fun e w' => e = .returned (.bool true) ∧ w' = w.setCell ⟨b, off + j, none⟩ (.bool true) := by
  have h1 : ¬ (4 : Int) ≤ (j : Int) := by omega
  go_enter Tryd.func138, Tryd.ntmps138
  go_wp2
  go_ret
  exact ⟨rfl, rfl⟩

set_option maxHeartbeats 400000 in
theorem firstTwice (b off j : Nat) (w : World) (hj : j < 4) (hc : w.cell? ⟨b, off + j, none⟩ = some (.bool true)) :
    Calls Tryd.prog 138 #[.pointer (some ⟨b, off, none⟩), .int .i64 j] w fun e w' => e = .returned (.bool false) ∧ w' = w := by
  have h1 : ¬ (4 : Int) ≤ (j : Int) := by omega
  go_enter Tryd.func138, Tryd.ntmps138
  go_wp2
  go_ret
  exact ⟨rfl, rfl⟩

set_option maxHeartbeats 400000 in
theorem firstNone (p : Option Addr) (n : Int) (w : World) (h : regOk n = false) :
    Calls Tryd.prog 138 #[.pointer p, .int .i64 n] w fun e w' => e = .returned (.bool false) ∧ w' = w := by
  by_cases h0 : n < 0
  · clear h
    go_enter Tryd.func138, Tryd.ntmps138
    go_wp2
    go_ret
    exact ⟨rfl, rfl⟩
  · have h4 : 4 ≤ n := by
      simp [regOk] at h
      omega
    clear h
    go_enter Tryd.func138, Tryd.ntmps138
    go_wp2
    go_ret
    exact ⟨rfl, rfl⟩

/-- Marks of boxes in memory. -/
def MarksAt (w : World) (b off : Nat) (m : Nat → Bool) : Prop := b < w.heap.size ∧ (∀ j, j < 4 → w.cell? ⟨b, off + j, none⟩ = some (.bool (m j))) ∧ (∀ o, w.frozen? ⟨b, o, none⟩ = false)

theorem MarksAt.keep {w w' : World} {b off : Nat} {m : Nat → Bool} (h : MarksAt w b off m) (hs : w.heap.size ≤ w'.heap.size) (hb : w'.heap[b]? = w.heap[b]?) : MarksAt w' b off m :=
  ⟨Nat.lt_of_lt_of_le h.1 hs, fun j hj => by rw [World.cell?_of_block (w := w) (a := ⟨b, off + j, none⟩) hb]; exact h.2.1 j hj, fun o => by rw [World.frozen?_of_block (w := w) (a := ⟨b, o, none⟩) hb]; exact h.2.2 o⟩
theorem MarksAt.alloc {w : World} {b off : Nat} {m : Nat → Bool} (h : MarksAt w b off m) (o : Obj) : MarksAt (w.alloc o) b off m :=
  h.keep (by rw [size_new]; omega) (heap_old w o b h.1)
theorem MarksAt.congr {w : World} {b off : Nat} {m m' : Nat → Bool} (h : MarksAt w b off m) (e : ∀ j, j < 4 → m j = m' j) : MarksAt w b off m' :=
  ⟨h.1, fun j hj => by rw [← e j hj]; exact h.2.1 j hj, h.2.2⟩
theorem MarksAt.set {w : World} {b off : Nat} {m : Nat → Bool} (h : MarksAt w b off m) (i : Nat) (hi : i < 4) : MarksAt (w.setCell ⟨b, off + i, none⟩ (.bool true)) b off (fun j => m j || decide (i = j)) := by
  refine ⟨by simpa [World.setCell] using h.1, fun j hj => ?_, fun o => by simpa using h.2.2 o⟩
  by_cases e : i = j
  · subst e
    rw [setCell_cell_same _ _ _ _ _ (h.2.1 i hi)]; simp
  · rw [setCell_cell_other _ _ _ _ _ (by omega), h.2.1 j hj]; simp [e]

theorem marks_new (w : World) (t : TypeId) : MarksAt (w.alloc (.cells #[.bool false, .bool false, .bool false, .bool false] t)) w.heap.size 0 (fun _ => false) := by
  refine ⟨by rw [size_new]; omega, fun j hj => ?_, fun o => frozen_heap (heap_new _ _) o⟩
  rw [cell_heap (heap_new _ _)]
  match j, hj with
  | 0, _ | 1, _ | 2, _ | 3, _ => rfl

theorem regOk_nat {n : Int} (h : regOk n = true) : ∃ j : Nat, j < 4 ∧ n = j := by
  simp [regOk] at h
  exact ⟨n.toNat, by omega, by omega⟩
theorem regOk_of (j : Nat) (h : j < 4) : regOk (j : Int) = true := by
  simp [regOk]; omega

theorem seen_step {xs : List P2} {k j : Nat} (h : k < xs.length) (hj : (xs.getD k (0, 0)).1 = (j : Int)) (i : Nat) : seen xs (k + 1) i = (seen xs k i || decide (j = i)) := by
  rw [seen_succ _ _ _ h, hj]
  congr 1
  rw [Bool.eq_iff_iff]; simp only [beq_iff_eq, decide_eq_true_eq]; omega

set_option maxRecDepth 100000 in
set_option maxHeartbeats 1000000 in
theorem readsOkC (a : Option Addr) (c : Nat) (xs : List P2) (w : World) (h : Sl w a xs) (hn : xs.length ≤ 2 ^ 40) :
    Calls Tryd.prog 136 #[.slice a xs.length c] w fun e w' => e = .returned (.bool (okAll verOk xs)) ∧ Below w.heap.size w w' := by
  have H1 : Hid (Sl w a xs) := h
  clear h
  go_enter Tryd.func136, Tryd.ntmps136
  go_wp2
  go_loopw [8] (fun i wr => ∃ k : Nat, k ≤ xs.length ∧ i = .int .i64 k ∧ Hid (∀ i, i < k → okAt verOk xs i = true) ∧ MarksAt wr w.heap.size 0 (seen xs k) ∧ Below w.heap.size w wr) (fun i _ => xs.length - (intOf i).toNat)
  case atStart => exact ⟨0, Nat.zero_le _, rfl, fun i hi => by omega, (marks_new w _).congr fun j _ => (seen_zero xs j).symm, (Below.refl _ _).alloc (Nat.le_refl _) _⟩
  case round =>
    obtain ⟨k, hk, rfl, hA, hM, hB⟩ := hrel
    by_cases hlt : k < xs.length
    · rcases H1.out with h | ⟨b1, o1, rfl, h1⟩
      · subst h; simp at hlt
      have H1' : Hid (BoxAt w b1 o1 xs) := h1
      clear h1
      obtain ⟨p, hp⟩ : ∃ p, p = xs.getD k (0, 0) := ⟨_, rfl⟩
      obtain ⟨ca, cb⟩ := H1'.out.2 k hlt
      rw [← hB.cell H1'.out.1, ← hp] at ca cb
      have HP : Hid (p = xs.getD k (0, 0)) := hp
      have HB : Hid (Below w.heap.size w wr) := hB
      have HM : Hid (MarksAt wr w.heap.size 0 (seen xs k)) := hM
      clear hp hB hM
      obtain ⟨p1, p2⟩ := p
      have F : Hid (okAt verOk xs k = false → okAll verOk xs = false) := fun t => okAll_false hlt t
      have HBa : ∀ o, Hid (Below w.heap.size w (wr.alloc o)) := fun o => HB.out.alloc HB.out.size _
      cases hr : regOk p1 with
      | false =>
        have F' : Hid (okAll verOk xs = false) := F.out (by unfold okAt; rw [← HP.out]; simp only [hr, Bool.false_and])
        have HR : Hid (regOk p1 = false) := hr
        clear F hr
        go_wp2_with fail
        refine (firstNone _ p1 _ HR.out).mono ?_
        rintro e w1 ⟨rfl, rfl⟩
        go_wp2
        go_ret
        exact ⟨ret_bool F'.out.symm, (HBa _).out⟩
      | true =>
        obtain ⟨j, hj, rfl⟩ := regOk_nat hr
        clear hr
        have HJ : Hid ((xs.getD k (0, 0)).1 = (j : Int)) := by show _ = _; rw [← HP.out]
        have HS : Hid (okAt verOk xs k = (regOk (j : Int) && verOk p2 && !seen xs k j)) := by
          show _ = _
          rw [okAt_seen verOk xs k j HJ.out, ← HP.out]
        cases hs : seen xs k j with
        | true =>
          have F' : Hid (okAll verOk xs = false) := F.out (by rw [HS.out, hs]; simp)
          have hc : Hid (∀ o, (wr.alloc o).cell? ⟨w.heap.size, 0 + j, none⟩ = some (.bool true)) := fun o => by
            have := (HM.out.alloc o).2.1 j hj
            rw [hs] at this; exact this
          clear F hs
          go_wp2_with fail
          refine (firstTwice w.heap.size 0 j _ hj (hc.out _)).mono ?_
          rintro e w1 ⟨rfl, rfl⟩
          go_wp2
          go_ret
          exact ⟨ret_bool F'.out.symm, (HBa _).out⟩
        | false =>
          have hc : Hid (∀ o, (wr.alloc o).cell? ⟨w.heap.size, 0 + j, none⟩ = some (.bool false) ∧ (wr.alloc o).frozen? ⟨w.heap.size, 0 + j, none⟩ = false) := fun o => by
            have := (HM.out.alloc o).2.1 j hj
            rw [hs] at this; exact ⟨this, (HM.out.alloc o).2.2 _⟩
          have HS' : Hid (seen xs k j = false) := hs
          clear hs
          have AF : Hid (∀ w1, w1 = (wr.alloc (.cells #[.int .i64 (j : Int), .int .i64 p2] 101)).setCell ⟨w.heap.size, 0 + j, none⟩ (.bool true) → w1.cell? ⟨wr.heap.size, 1, none⟩ = some (.int .i64 p2) ∧ Hid (MarksAt w1 w.heap.size 0 (seen xs (k + 1))) ∧ Hid (Below w.heap.size w w1)) := by
            intro w1 hw
            have hsz : w.heap.size < wr.heap.size := HM.out.1
            refine ⟨?_, ?_, ?_⟩
            · rw [hw, World.cell?_setCell_other _ _ _ _ (by intro e; injection e with e1; omega), cell_heap (heap_new _ _)]; rfl
            · rw [hw]; exact ((HM.out.alloc _).set j hj).congr fun i hi => (seen_step hlt HJ.out i).symm
            · rw [hw]; exact (HBa _).out.setCell (Nat.le_refl _) _
          by_cases t1 : p2 < 0
          · have F' : Hid (okAll verOk xs = false) := F.out (by rw [HS.out]; simp [verOk]; omega)
            clear F
            go_wp2_with fail
            refine (firstYes w.heap.size 0 j _ hj (hc.out _).1 (hc.out _).2).mono ?_
            rintro e w1 ⟨rfl, hw⟩
            obtain ⟨c1, M1, B1⟩ := AF.out w1 hw
            clear hw AF
            go_wp2
            go_ret
            exact ⟨ret_bool F'.out.symm, B1.out⟩
          · by_cases t2 : 1000000 < p2
            · have F' : Hid (okAll verOk xs = false) := F.out (by rw [HS.out]; simp [verOk]; omega)
              clear F
              go_wp2_with fail
              refine (firstYes w.heap.size 0 j _ hj (hc.out _).1 (hc.out _).2).mono ?_
              rintro e w1 ⟨rfl, hw⟩
              obtain ⟨c1, M1, B1⟩ := AF.out w1 hw
              clear hw AF
              go_wp2
              go_ret
              exact ⟨ret_bool F'.out.symm, B1.out⟩
            · have N : Hid (∀ i, i < k + 1 → okAt verOk xs i = true) := by
                intro i hi
                by_cases e : i = k
                · subst e
                  rw [HS.out, HS'.out, regOk_of j hj]; simp [verOk]; omega
                · exact hA.out i (by omega)
              clear F
              go_wp2_with fail
              refine (firstYes w.heap.size 0 j _ hj (hc.out _).1 (hc.out _).2).mono ?_
              rintro e w1 ⟨rfl, hw⟩
              obtain ⟨c1, M1, B1⟩ := AF.out w1 hw
              clear hw AF
              go_wp2
              go_roundw
              case rel => exact ⟨k + 1, by omega, by go_num, N, M1.out, B1.out⟩
              case measure => simp [intOf]; omega
    · go_wp2
      go_ret
      have : k = xs.length := by omega
      subst this
      exact ⟨ret_bool (okAll_iff.2 hA.out).symm, hB⟩
end Go.Proofs.YtokbakphfodabaaDoor.Own

namespace Go.Proofs.YtokbakphfodabaaDoor.Own
open Go.RowKit
set_option linter.unusedVariables false

theorem region_still_tail {P : Program} {id : Nat} {Q : Exit → Act → World → Prop} {a : Act} {w : World} {l : List Oper} (n : Nat) (hm : P.follows .mixedOrders = true) (hB : Region.lexTailB .any l.toArray n = true)
    (h : wpStill P l.toArray w.drew (fun a' => wpList P l.toArray Q (l.drop n) a' w.drew) (l.take n) a) : (Code.region id l.toArray true).wp P Q a w := wp_region_still_tail n hm hB h

end Go.Proofs.YtokbakphfodabaaDoor.Own

namespace Go.Proofs.YtokbakphfodabaaDoor.Own
open Go.RowKit
set_option linter.unusedVariables false
set_option linter.unusedSimpArgs false

def freshAt (bs : List P2) (p : P2) : Bool := (bs.getD p.1.toNat (0, 0)).1 == p.2
/-- Boxes are as a run saw them. -/
def execFresh (bs xs ys : List P2) (v k : Int) : Bool := boxOk bs && execOk xs ys v k && xs.all (freshAt bs)

theorem execOk_reads {xs ys : List P2} {v k : Int} (h : execOk xs ys v k = true) : okAll verOk xs = true := by
  simp only [execOk, Bool.and_eq_true] at h
  exact h.1.2
theorem execOk_puts {xs ys : List P2} {v k : Int} (h : execOk xs ys v k = true) : okAll numOk ys = true := by
  simp only [execOk, Bool.and_eq_true] at h
  exact h.2
theorem okAll_box {f : Int → Bool} {xs : List P2} (h : okAll f xs = true) (i : Nat) (hi : i < xs.length) : ∃ j : Nat, j < 4 ∧ (xs.getD i (0, 0)).1 = j := by
  have := okAll_iff.1 h i hi
  simp only [okAt, Bool.and_eq_true] at this
  exact regOk_nat this.1.1
theorem boxOk_len {bs : List P2} (h : boxOk bs = true) : bs.length = 4 := by
  simp only [boxOk, Bool.and_eq_true, beq_iff_eq] at h
  exact h.1

end Go.Proofs.YtokbakphfodabaaDoor.Own

namespace Go.Proofs.YtokbakphfodabaaDoor.Own
open Go.RowKit
set_option linter.unusedVariables false

theorem getD_set2 (xs : List P2) (i j : Nat) (v : P2) (hi : i < xs.length) : (xs.set i v).getD j (0, 0) = if i = j then v else xs.getD j (0, 0) := by
  simp only [List.getD_eq_getElem?_getD, List.getElem?_set]
  by_cases e : i = j
  · simp [e, show j < xs.length by omega]
  · simp [e]

/-- A put, done to boxes. -/
def put1 (bs : List P2) (p : P2) : List P2 := bs.set p.1.toNat (min 1000000 ((bs.getD p.1.toNat (0, 0)).1 + 1), p.2)
def doPuts (bs ys : List P2) : List P2 := ys.foldl put1 bs
def execDo (bs xs ys : List P2) (v k : Int) : List P2 := if boxOk bs && execOk xs ys v k then doPuts bs ys else []

theorem put1_length (bs : List P2) (p : P2) : (put1 bs p).length = bs.length := by simp [put1]
theorem doPuts_length (bs ys : List P2) : (doPuts bs ys).length = bs.length := by
  unfold doPuts
  induction ys generalizing bs with
  | nil => rfl
  | cons y r ih => rw [List.foldl_cons, ih, put1_length]
theorem doPuts_succ (bs ys : List P2) (j : Nat) (h : j < ys.length) : doPuts bs (ys.take (j + 1)) = put1 (doPuts bs (ys.take j)) (ys.getD j (0, 0)) := by
  unfold doPuts
  rw [List.take_succ_eq_append_getElem h, List.foldl_append]
  simp [List.getD, h]

theorem boxOk_iff {bs : List P2} : boxOk bs = true ↔ bs.length = 4 ∧ ∀ i, i < bs.length → boxOk1 (bs.getD i (0, 0)) = true := by
  simp only [boxOk, Bool.and_eq_true, beq_iff_eq, List.all_eq_true]
  constructor
  · rintro ⟨h, h2⟩
    exact ⟨h, fun i hi => h2 _ (by simp [List.getD, hi])⟩
  · rintro ⟨h, h2⟩
    refine ⟨h, fun x hx => ?_⟩
    obtain ⟨i, hi, rfl⟩ := List.getElem_of_mem hx
    simpa [List.getD, hi] using h2 i hi

theorem put1_ok {bs : List P2} {p : P2} (h : boxOk bs = true) (m : Nat) (hm : m < 4) (hp : p.1 = m) (hv : numOk p.2 = true) : boxOk (put1 bs p) = true := by
  have h' := boxOk_iff.1 h
  rw [boxOk_iff]
  refine ⟨by rw [put1_length]; exact h'.1, fun i hi => ?_⟩
  rw [put1_length] at hi
  have e : p.1.toNat = m := by omega
  unfold put1
  rw [e, getD_set2 _ _ _ _ (by omega)]
  by_cases e2 : m = i
  · rw [if_pos e2]
    have := h'.2 m (by omega)
    simp only [boxOk1, Bool.and_eq_true, decide_eq_true_eq] at this ⊢
    exact ⟨⟨by omega, by omega⟩, hv⟩
  · rw [if_neg e2]; exact h'.2 i hi
theorem doPuts_ok {bs ys : List P2} (h : boxOk bs = true) (hy : okAll numOk ys = true) : ∀ j, j ≤ ys.length → boxOk (doPuts bs (ys.take j)) = true
  | 0, _ => by simpa [doPuts] using h
  | j + 1, hj => by
    rw [doPuts_succ _ _ _ (by omega)]
    obtain ⟨m, hm, hp⟩ := okAll_box hy j (by omega)
    have := okAll_iff.1 hy j (by omega)
    simp only [okAt, Bool.and_eq_true] at this
    exact put1_ok (doPuts_ok h hy j (by omega)) m hm hp this.1.2
theorem boxOk_ver {bs : List P2} (h : boxOk bs = true) (i : Nat) (hi : i < 4) : 0 ≤ (bs.getD i (0, 0)).1 ∧ (bs.getD i (0, 0)).1 ≤ 1000000 := by
  have h' := boxOk_iff.1 h
  have := h'.2 i (by omega)
  simp only [boxOk1, Bool.and_eq_true, decide_eq_true_eq] at this
  exact this.1

theorem BoxAt.setBoth {w : World} {b off : Nat} {xs : List P2} (h : BoxAt w b off xs) (i : Nat) (hi : i < xs.length) (p q : Int) : BoxAt ((w.setCell ⟨b, off + i * 2, none⟩ (.int .i64 p)).setCell ⟨b, off + i * 2 + 1, none⟩ (.int .i64 q)) b off (xs.set i (p, q)) := by
  refine ⟨by simpa [World.setCell] using h.1, fun j hj => ?_⟩
  rw [List.length_set] at hj
  rw [getD_set2 _ _ _ _ hi]
  by_cases e : i = j
  · subst e
    rw [if_pos rfl]
    exact ⟨by rw [setCell_cell_other _ _ _ _ _ (by omega)]; exact setCell_cell_same _ _ _ _ _ (h.2 i hi).1, setCell_cell_same _ _ _ _ _ (by rw [setCell_cell_other _ _ _ _ _ (by omega)]; exact (h.2 i hi).2)⟩
  · rw [if_neg e, setCell_cell_other _ _ _ _ _ (by omega), setCell_cell_other _ _ _ _ _ (by omega), setCell_cell_other _ _ _ _ _ (by omega), setCell_cell_other _ _ _ _ _ (by omega)]
    exact h.2 j hj
end Go.Proofs.YtokbakphfodabaaDoor.Own
