/-
  Own text: spec.l3Run's walk.
-/
import Derived.Test.YtgcencilgpilaaaL3Run
import Derived.Deep.RegionLaw
import Derived.Deep.AppendLies
import Derived.Deep.Cut
import Derived.Deep.RegionWith
namespace Go.Proofs.Ytgcencilgpilaaa.Own
open Go.RowKit
set_option linter.unusedVariables false
set_option linter.unusedSimpArgs false

theorem Rd.grownRow {w w' : World} {rb B p : Nat} {row : Option Nat} (h : Rd w rb B p) (hg : w.grownBy w' row) (hr : ∀ g, row = some g → B ≤ g) : Rd w' rb B p :=
  h.keep hg.size fun i hi => hg.block i (Nat.lt_of_lt_of_le hi h.2.1) (fun e => by have := hr i e.symm; omega)
theorem infoPut' : (Try.prog.info? 36).map (fun i => (i.zero, i.size, i.bytes)) = some (some (.agg #[.int .i64 0, .int .i64 0]), 2, 16) := by kernel_rfl

set_option maxRecDepth 100000 in
set_option maxHeartbeats 16000000 in
theorem l3Run (rb B p : Nat) (w : World) (h : Rd w rb B p) (hp : p ≤ 2 ^ 20) :
    Calls Try.prog 62 #[.pointer (some ⟨rb, 0, none⟩)] w fun e w' => DrawnRun w w' rb B p e := by
  have hrb : Hid (rb < w.heap.size) := Nat.lt_of_lt_of_le h.1 h.2.1
  have HBs : Hid (B ≤ w.heap.size) := h.2.1
  obtain ⟨W, hW⟩ : ∃ W, W = w.alloc (.cells #[.slice none 0 0, .slice none 0 0, .int .i64 0, .int .i64 0] 27) := ⟨_, rfl⟩
  have BW : Hid (Below w.heap.size w W) := by show Below _ _ _; rw [hW]; exact below_new _ _
  have SW : Hid (W.heap.size = w.heap.size + 1) := by show _ = _; rw [hW]; simp
  have ZW : Hid (Blk W w.heap.size #[.slice none 0 0, .slice none 0 0, .int .i64 0, .int .i64 0] 27) := by show Blk _ _ _ _; rw [hW]; exact Blk.new _ _ _
  have RW : Hid (Rd W rb B p) := h.below BW.out
  have HW : Hid (W = _) := hW
  clear hW h
  go_enter Try.func62, Try.ntmps62
  go_wp2_with fail
  rw [← HW.out]
  refine (l1Boxes rb B p W RW.out (by omega)).mono ?_
  rintro e w1 ⟨bs, hl, rfl, hat, hsm, ⟨C, hC, _⟩, ⟨p1, hp1, hR1⟩, hbar1⟩
  have D1 : Hid (Rd w1 rb B p1) := hR1
  have A1 : Hid (BoxAt w1 W.heap.size 0 bs ∧ ∀ o, w1.frozen? ⟨W.heap.size, o, none⟩ = false) := ⟨hat, fun o => frozen_heap hC o⟩
  have L1 : Hid (3 ≤ bs.length ∧ bs.length ≤ 4 ∧ Sm bs) := ⟨by omega, by omega, hsm⟩
  have B1 : Hid (Bar rb w w1) := (Bar.ofBelow BW.out).trans hbar1
  have Z1 : Hid (Blk w1 w.heap.size _ _) := ZW.out.grown (row := some rb) ⟨hbar1.os, hbar1.tape, hbar1.output, hbar1.size, fun k hk hn => hbar1.block k hk (fun e => hn (by rw [e]))⟩ (fun e => by injection e with e; have := hrb.out; omega)
  clear hl hat hsm hC hR1 hbar1
  go_wp2_with fail
  refine (l2Bent rb B p1 w1 D1.out (by omega)).mono ?_
  rintro e w2 ⟨g2, cap2, ps, rfl, hown, hl2, _, ⟨p2, hp2, hR2⟩, hbar2⟩
  have D2 : Hid (Rd w2 rb B p2) := hR2
  have gr2 : w1.grownBy w2 (some rb) := ⟨hbar2.os, hbar2.tape, hbar2.output, hbar2.size, fun k hk hn => hbar2.block k hk (fun e => hn (by rw [e]))⟩
  have n1 : some W.heap.size ≠ some rb := fun e => by injection e with e; have := hrb.out; have := SW.out; omega
  have A2 : Hid (BoxAt w2 W.heap.size 0 bs ∧ ∀ o, w2.frozen? ⟨W.heap.size, o, none⟩ = false) := ⟨A1.out.1.grown gr2 n1, fun o => by rw [frozen_grown A1.out.1.1 gr2 n1]; exact A1.out.2 o⟩
  have Z2 : Hid (Blk w2 w.heap.size _ _) := Z1.out.grown gr2 (fun e => by injection e with e; have := hrb.out; omega)
  have B2 : Hid (Bar rb w w2) := B1.out.trans hbar2
  have P2' : Hid (At4 w2 g2 0 ps) := hown.cells.2.1
  clear hown hR2 hbar2 gr2 n1
  go_wp2_with fail
  refine (specRun (some ⟨W.heap.size, 0, none⟩) (some ⟨g2, 0, none⟩) 4 cap2 bs ps w2 (.inr ⟨_, _, rfl, A2.out.1⟩) (.inr ⟨_, _, rfl, P2'.out⟩) (by have := L1.out.2.1; omega) (by omega)).mono ?_
  rintro e w3 ⟨⟨rv, pv, rfl, hr, hpv, hap⟩, b3⟩
  have F4 := execRun_four bs ps
  generalize execRun bs ps = o at hr hpv F4 ⊢
  obtain ⟨xs, ys, v, k⟩ := o
  simp only at hr hpv F4 ⊢
  obtain ⟨ar, cr, rfl, _, _, _, _⟩ := hr.open
  obtain ⟨ap, cp, rfl, _, _, _, _⟩ := hpv.open
  obtain ⟨X3, hX3⟩ : ∃ X, X = w3.alloc (.cells #[.slice ar xs.length cr, .slice ap ys.length cp, .int .i64 v, .int .i64 k] 27) := ⟨_, rfl⟩
  have c3 : Below w3.heap.size w3 X3 := by rw [hX3]; exact below_new _ _
  have d3 : Below w2.heap.size w2 X3 := b3.trans (c3.mono b3.size)
  have hs23 : w2.heap.size ≤ w3.heap.size := b3.size
  have hsW : W.heap.size < w2.heap.size := A2.out.1.1
  have hz2 := Z2.out.lt
  have R3 : Hid (RA X3 w.heap.size w3.heap.size w.heap.size W.heap.size bs xs ys (.slice ar xs.length cr) (.slice ap ys.length cp) v k) := by
    have := SW.out
    have szw := B2.out.size
    refine ⟨by rw [hX3]; exact Blk.new _ _ _, Z2.out.keep d3, (hr.below c3).lower (by omega), (hpv.below c3).lower (by omega), hap, A2.out.1.below d3, fun o => by rw [d3.frozen (p := ⟨W.heap.size, o, none⟩) A2.out.1.1]; exact A2.out.2 o, ⟨by omega, by omega, by omega⟩, fun g e => ?_, fun g e => ?_, ⟨by omega, by omega, by omega⟩⟩
    · have := World.ownsRow.lt hr g e; exact ⟨by omega, by omega, by omega⟩
    · have := World.ownsRow.lt hpv g e; exact ⟨by omega, by omega, by omega⟩
  have D3 : Hid (Rd X3 rb B p2) := D2.out.below d3
  have B3 : Hid (Bar rb w X3) := B2.out.trans (Bar.ofBelow d3)
  have NN : Hid (w.heap.size ≠ w3.heap.size) := by have := B2.out.size; show _ ≠ _; omega
  have HF4 : Hid (xs.length ≤ 4 ∧ ys.length ≤ 4) := F4
  have HX3 : Hid (X3 = _) := hX3
  clear hX3 c3 d3 hr hpv hap b3 F4 hs23 hsW hz2
  go_wp2_with fail
  rw [← HX3.out]
  refine (pick rb B p2 40 X3 D3.out (by omega) (by omega) (by omega)).mono ?_
  rintro e w4 ⟨⟨c, rfl, c0, c1⟩, hR4, hO4⟩
  have R4 : Hid (RA w4 w.heap.size w3.heap.size w.heap.size W.heap.size bs xs ys (.slice ar xs.length cr) (.slice ap ys.length cp) v k) := R3.out.grown hO4.gr hrb.out
  have D4 : Hid (Rd w4 rb B (p2 + 1)) := hR4
  have B4 : Hid (Bar rb w w4) := B3.out.trans (Bar.ofOnly hO4)
  clear hR4 hO4 R3 D3 B3 HX3
  have FIN : Hid (∀ (V W' : World) (us zs : List P2) (rv pv : Value) (v k : Int) (p' : Nat), RA V w.heap.size w3.heap.size w.heap.size W.heap.size bs us zs rv pv v k → us.length ≤ 5 ∧ zs.length ≤ 5 → Rd V rb B p' → p' ≤ p + 200 → Bar rb w V → V.grownBy W' (some w.heap.size) → DrawnRun w W' rb B p (.returned (.tuple #[.slice (some ⟨W.heap.size, 0, none⟩) (List.length (α := P2) bs) 4, .agg #[rv, pv, .int .i64 v, .int .i64 k]]))) :=
    fun V W' us zs rv pv v k p' h hx hR hp hb hg => h.fin L1.out hx hR hp hb HBs.out hg
  have l5 : Hid (xs.length ≤ 5 ∧ ys.length ≤ 5) := ⟨by have := HF4.out.1; omega, by have := HF4.out.2; omega⟩
  have lp : Hid (p2 + 3 ≤ p + 200) := by show _ ≤ _; omega
  have nn := NN.out
  have nn' : ¬ w3.heap.size = w.heap.size := fun e => nn e.symm
  have BX : Hid (w.heap.size ≤ w3.heap.size ∧ B ≤ w3.heap.size) := ⟨R4.out.far.1, Nat.le_trans HBs.out R4.out.far.1⟩
  have BB : Hid (B ≤ w.heap.size) := HBs.out
  clear A1 A2 B1 B2 Z1 Z2 D1 D2 P2' BW SW ZW RW HW L1 HBs
  by_cases h0 : c = 0
  · subst h0
    go_wp2_with fail
    refine (num rb B (p2 + 1) w4.heap.size 3 3 [-1, 4, 1] (w4.alloc (.cells #[.int .i64 (-1), .int .i64 4, .int .i64 1] 3)) (D4.out.alloc _) (by omega) (nums_new _ _ _ _ rfl) rfl (by omega) (by omega) (by have := D4.out.1; have := D4.out.2.1; omega)).mono ?_
    rintro e w5 ⟨⟨r, rfl, _⟩, hR5, hO5⟩
    have r5 := (R4.out.alloc (.cells #[.int .i64 (-1), .int .i64 4, .int .i64 1] 3)).grown hO5.gr hrb.out
    have R6 : Hid _ := r5.setCode r
    have D6 : Hid _ := hR5.setCell (q := ⟨w3.heap.size, 3, none⟩) BX.out.2 (.int .i64 r)
    have B6 : Hid _ := ((B4.out.alloc _).trans (Bar.ofOnly hO5)).setCell (p := ⟨w3.heap.size, 3, none⟩) BX.out.1 (.int .i64 r)
    obtain ⟨x0, x1, x2, x3⟩ := r5.x.cells4
    obtain ⟨z0, z1, z2, z3⟩ := r5.z.cells4
    have fx := r5.x.frozen
    have fz := r5.z.frozen
    clear r5 hR5 hO5
    go_wp2
    go_region
    all_goals
      go_wp2
      refine bodyPost_ret (v := .tuple #[.slice (some ⟨W.heap.size, 0, none⟩) bs.length 4, .agg #[.slice ar xs.length cr, .slice ap ys.length cp, .int .i64 v, .int .i64 r]]) (by simp [results, Try.results62, go_sem, z0, z1, z2, z3, nn, nn']) rfl ?_
      refine FIN.out (w5.setCell ⟨w3.heap.size, 3, none⟩ (.int .i64 r)) _ xs ys _ _ _ _ _ R6.out l5.out D6.out (by have := lp.out; omega) B6.out ?_
      repeat (first | (with_reducible exact grR _ _) | (with_reducible apply grSet) | (with_reducible apply grDrew) | (with_reducible apply grDrewN))
  by_cases h1 : c = 1
  · subst h1
    obtain ⟨i0, hi0, hz0, hz1, hz2⟩ := info_parts infoRead
    have hN : Hid (xs.length + 1 ≤ maxLen) := by show _ ≤ _; unfold maxLen; have := HF4.out; omega
    have hBy : Hid ((xs.length + 1) * 16 ≤ 140737488355328) := by show _ ≤ _; have := HF4.out; omega
    have PK : Hid (Calls Try.prog 76 #[.pointer (some ⟨rb, 0, none⟩), .int .i64 5] w4.drew fun e w' => ∃ z : Int, e = .returned (.int .i64 z) ∧ 0 ≤ z ∧ z < 5 ∧ Hid (RA w' w.heap.size w3.heap.size w.heap.size W.heap.size bs xs ys (.slice ar xs.length cr) (.slice ap ys.length cp) v k ∧ Rd w' rb B (p2 + 1 + 1) ∧ Bar rb w w')) := by
      refine (pick rb B (p2 + 1) 5 w4.drew (D4.out.below ((Below.refl _ _).drew)) (by omega) (by omega) (by omega)).mono ?_
      rintro e w' ⟨⟨z, rfl, z0, z1⟩, hR, hO⟩
      have g : w4.grownBy w' (some rb) := (grDrew (grR _ _)).trans hO.gr
      exact ⟨z, rfl, z0, z1, R4.out.grown g hrb.out, hR, (B4.out.trans (Bar.ofBelow ((Below.refl w4.heap.size w4).drew))).trans (Bar.ofOnly hO)⟩
    have QA : Hid (∀ (w' : World) (z : Int), RA w' w.heap.size w3.heap.size w.heap.size W.heap.size bs xs ys (.slice ar xs.length cr) (.slice ap ys.length cp) v k → w'.cell? ⟨w3.heap.size, 0, none⟩ = some (.slice ar xs.length cr) ∧ (w'.alloc (.cells #[.int .i64 z, .int .i64 0] 40)).cell? ⟨w3.heap.size, 0, none⟩ = some (.slice ar xs.length cr)) := fun w' z h => ⟨by rw [h.x.cell]; rfl, by rw [(h.alloc _).x.cell]; rfl⟩
    have AFT : Hid (∀ (w' : World) (z : Int) (w6 : World), RA w' w.heap.size w3.heap.size w.heap.size W.heap.size bs xs ys (.slice ar xs.length cr) (.slice ap ys.length cp) v k → (w'.alloc (.cells #[.int .i64 z, .int .i64 0] 40)).grownBy w6 (Value.ownBlock (.slice ar xs.length cr)) → Blk w6 w3.heap.size #[.slice ar xs.length cr, .slice ap ys.length cp, .int .i64 v, .int .i64 k] 27 ∧ Blk w6 w.heap.size #[.slice none 0 0, .slice none 0 0, .int .i64 0, .int .i64 0] 27) := fun w' z w6 h hg =>
      ⟨(h.alloc _).x.grown hg (fun e => (h.nr _ e.symm).1 rfl), (h.alloc _).z.grown hg (fun e => (h.nr _ e.symm).2.1 rfl)⟩
    have OF : Hid (∀ g, Value.ownBlock (.slice ar xs.length cr) = some g → w.heap.size ≤ g ∧ B ≤ g) := fun g e => ⟨(World.ownsRow.lt R4.out.r g e).1, Nat.le_trans BB.out (World.ownsRow.lt R4.out.r g e).1⟩
    obtain ⟨x0, x1, x2, x3⟩ := R4.out.x.cells4
    go_wp2_with fail
    go_region_law ((first | (refine step_append_lies _ (by rfl) _ _ _ (by rfl) w.heap.size 40 i0 _ 2 16 Try.underlying24 hi0 hz0 hz1 hz2 rfl (by omega) (.slice ar xs.length cr) xs.length (flat xs) (by rfl) (HF.out.1.alloc _).r ⟨w5.heap.size, 0, none⟩ 1 1 [.int .i64 z, .int .i64 0] (by rfl) (by rfl) (World.news_of_block (cs := #[.int .i64 z, .int .i64 0]) (t := 40) (fr := (0, 0)) (heap_alloc_new w5 _)) (by simp [Value.oneCell']) (by omega) hN.out hBy.out (by simp; omega) (w5.heap.size + 1) (by simp) ?_; intro gg cap w6 hown1 hgrow hat hlt; have AB := AFT.out w5 _ w6 HF.out.1 hgrow; have f0 : w6.frozen? ⟨w3.heap.size, 0, none⟩ = false := AB.1.frozen _; have c0 : w6.cell? ⟨w3.heap.size, 0, none⟩ = some (.slice ar xs.length cr) := (AB.1.cell _).trans rfl) | (go_simp; go_wp2_with (go_at_call 76; refine Calls.mono PK.out ?_; rintro e w5 ⟨z, rfl, z0, z1, HF⟩; obtain ⟨q0, qa⟩ := QA.out w5 z HF.out.1; have s5 : w.heap.size ≤ w5.heap.size := HF.out.2.2.size))))
    all_goals
      have r6 := (HF.out.1.alloc _).addR hgrow hown1 hat (by simp)
      have R7 : Hid _ := r6
      have D7 : Hid _ := ((HF.out.2.1.alloc _).grownRow hgrow (fun g e => (OF.out g e).2)).setCell (q := ⟨w3.heap.size, 0, none⟩) BX.out.2 (.slice (some ⟨gg, 0, none⟩) (xs.length + 1) cap)
      have B7 : Hid _ := ((HF.out.2.2.alloc _).grown hgrow (fun g e => (OF.out g e).1)).setCell (p := ⟨w3.heap.size, 0, none⟩) BX.out.1 (.slice (some ⟨gg, 0, none⟩) (xs.length + 1) cap)
      obtain ⟨y0, y1, y2, y3⟩ := AB.1.cells4
      obtain ⟨z0', z1', z2, z3⟩ := AB.2.cells4
      have fx := AB.1.frozen
      have fz := AB.2.frozen
      clear r6 hown1 hgrow hat hlt AB
      go_wp2
      go_region
      all_goals
        go_wp2
        refine bodyPost_ret (v := .tuple #[.slice (some ⟨W.heap.size, 0, none⟩) bs.length 4, .agg #[.slice (some ⟨gg, 0, none⟩) (xs.length + 1) cap, .slice ap ys.length cp, .int .i64 v, .int .i64 k]]) (by simp [results, Try.results62, go_sem, z0', z1', z2, z3, nn, nn']) rfl ?_
        refine FIN.out (w6.setCell ⟨w3.heap.size, 0, none⟩ (.slice (some ⟨gg, 0, none⟩) (xs.length + 1) cap)) _ (xs ++ [(z, 0)]) ys _ _ _ _ _ R7.out ⟨by rw [List.length_append]; have := HF4.out.1; simp; omega, l5.out.2⟩ D7.out (by have := lp.out; omega) B7.out ?_
        repeat (first | (with_reducible exact grR _ _) | (with_reducible apply grSet) | (with_reducible apply grDrew) | (with_reducible apply grDrewN))
  by_cases h2 : c = 2
  · subst h2
    obtain ⟨i0, hi0, hz0, hz1, hz2⟩ := info_parts infoPut'
    have hN : Hid (ys.length + 1 ≤ maxLen) := by show _ ≤ _; unfold maxLen; have := HF4.out; omega
    have hBy : Hid ((ys.length + 1) * 16 ≤ 140737488355328) := by show _ ≤ _; have := HF4.out; omega
    have PK : Hid (Calls Try.prog 76 #[.pointer (some ⟨rb, 0, none⟩), .int .i64 6] w4.drew fun e w' => ∃ z : Int, e = .returned (.int .i64 z) ∧ 0 ≤ z ∧ z < 6 ∧ Hid (RA w' w.heap.size w3.heap.size w.heap.size W.heap.size bs xs ys (.slice ar xs.length cr) (.slice ap ys.length cp) v k ∧ Rd w' rb B (p2 + 1 + 1) ∧ Bar rb w w')) := by
      refine (pick rb B (p2 + 1) 6 w4.drew (D4.out.below ((Below.refl _ _).drew)) (by omega) (by omega) (by omega)).mono ?_
      rintro e w' ⟨⟨z, rfl, z0, z1⟩, hR, hO⟩
      have g : w4.grownBy w' (some rb) := (grDrew (grR _ _)).trans hO.gr
      exact ⟨z, rfl, z0, z1, R4.out.grown g hrb.out, hR, (B4.out.trans (Bar.ofBelow ((Below.refl w4.heap.size w4).drew))).trans (Bar.ofOnly hO)⟩
    have QA : Hid (∀ (w' : World) (z : Int), RA w' w.heap.size w3.heap.size w.heap.size W.heap.size bs xs ys (.slice ar xs.length cr) (.slice ap ys.length cp) v k → w'.cell? ⟨w3.heap.size, 1, none⟩ = some (.slice ap ys.length cp) ∧ (w'.alloc (.cells #[.int .i64 z, .int .i64 0] 36)).cell? ⟨w3.heap.size, 1, none⟩ = some (.slice ap ys.length cp)) := fun w' z h => ⟨by rw [h.x.cell]; rfl, by rw [(h.alloc _).x.cell]; rfl⟩
    have AFT : Hid (∀ (w' : World) (z : Int) (w6 : World), RA w' w.heap.size w3.heap.size w.heap.size W.heap.size bs xs ys (.slice ar xs.length cr) (.slice ap ys.length cp) v k → (w'.alloc (.cells #[.int .i64 z, .int .i64 0] 36)).grownBy w6 (Value.ownBlock (.slice ap ys.length cp)) → Blk w6 w3.heap.size #[.slice ar xs.length cr, .slice ap ys.length cp, .int .i64 v, .int .i64 k] 27 ∧ Blk w6 w.heap.size #[.slice none 0 0, .slice none 0 0, .int .i64 0, .int .i64 0] 27) := fun w' z w6 h hg =>
      ⟨(h.alloc _).x.grown hg (fun e => (h.np _ e.symm).1 rfl), (h.alloc _).z.grown hg (fun e => (h.np _ e.symm).2.1 rfl)⟩
    have OF : Hid (∀ g, Value.ownBlock (.slice ap ys.length cp) = some g → w.heap.size ≤ g ∧ B ≤ g) := fun g e => ⟨(World.ownsRow.lt R4.out.p g e).1, Nat.le_trans BB.out (World.ownsRow.lt R4.out.p g e).1⟩
    obtain ⟨x0, x1, x2, x3⟩ := R4.out.x.cells4
    go_wp2_with fail
    go_region_law ((first | (refine step_append_lies _ (by rfl) _ _ _ (by rfl) w.heap.size 36 i0 _ 2 16 Try.underlying25 hi0 hz0 hz1 hz2 rfl (by omega) (.slice ap ys.length cp) ys.length (flat ys) (by rfl) (HF.out.1.alloc _).p ⟨w5.heap.size, 0, none⟩ 1 1 [.int .i64 (IntKind.i64.wrap (z - 1)), .int .i64 0] (by rfl) (by rfl) (World.news_of_block (cs := #[.int .i64 (IntKind.i64.wrap (z - 1)), .int .i64 0]) (t := 36) (fr := (0, 0)) (heap_alloc_new w5 _)) (by simp [Value.oneCell']) (by omega) hN.out hBy.out (by simp; omega) (w5.heap.size + 1) (by simp) ?_; intro gg cap w6 hown1 hgrow hat hlt; have AB := AFT.out w5 _ w6 HF.out.1 hgrow; have f0 : w6.frozen? ⟨w3.heap.size, 1, none⟩ = false := AB.1.frozen _; have c0 : w6.cell? ⟨w3.heap.size, 1, none⟩ = some (.slice ap ys.length cp) := (AB.1.cell _).trans rfl) | (go_simp; go_wp2_with (go_at_call 76; refine Calls.mono PK.out ?_; rintro e w5 ⟨z, rfl, z0, z1, HF⟩; obtain ⟨q0, qa⟩ := QA.out w5 (IntKind.i64.wrap (z - 1)) HF.out.1; have s5 : w.heap.size ≤ w5.heap.size := HF.out.2.2.size))))
    all_goals
      have r6 := (HF.out.1.alloc _).addP hgrow hown1 hat (by simp)
      have R7 : Hid _ := r6
      have D7 : Hid _ := ((HF.out.2.1.alloc _).grownRow hgrow (fun g e => (OF.out g e).2)).setCell (q := ⟨w3.heap.size, 1, none⟩) BX.out.2 (.slice (some ⟨gg, 0, none⟩) (ys.length + 1) cap)
      have B7 : Hid _ := ((HF.out.2.2.alloc _).grown hgrow (fun g e => (OF.out g e).1)).setCell (p := ⟨w3.heap.size, 1, none⟩) BX.out.1 (.slice (some ⟨gg, 0, none⟩) (ys.length + 1) cap)
      obtain ⟨y0, y1, y2, y3⟩ := AB.1.cells4
      obtain ⟨z0', z1', z2, z3⟩ := AB.2.cells4
      have fx := AB.1.frozen
      have fz := AB.2.frozen
      clear r6 hown1 hgrow hat hlt AB
      go_wp2
      go_region
      all_goals
        go_wp2
        refine bodyPost_ret (v := .tuple #[.slice (some ⟨W.heap.size, 0, none⟩) bs.length 4, .agg #[.slice ar xs.length cr, .slice (some ⟨gg, 0, none⟩) (ys.length + 1) cap, .int .i64 v, .int .i64 k]]) (by simp [results, Try.results62, go_sem, z0', z1', z2, z3, nn, nn']) rfl ?_
        refine FIN.out (w6.setCell ⟨w3.heap.size, 1, none⟩ (.slice (some ⟨gg, 0, none⟩) (ys.length + 1) cap)) _ xs (ys ++ [(IntKind.i64.wrap (z - 1), 0)]) _ _ _ _ _ R7.out ⟨l5.out.1, by rw [List.length_append]; have := HF4.out.2; simp; omega⟩ D7.out (by have := lp.out; omega) B7.out ?_
        repeat (first | (with_reducible exact grR _ _) | (with_reducible apply grSet) | (with_reducible apply grDrew) | (with_reducible apply grDrewN))
  obtain ⟨x0, x1, x2, x3⟩ := R4.out.x.cells4
  obtain ⟨z0, z1, z2, z3⟩ := R4.out.z.cells4
  have fx := R4.out.x.frozen
  have fz := R4.out.z.frozen
  by_cases h3 : c = 3
  · subst h3
    have R6 : Hid _ := R4.out.setVal 1000001
    have D6 : Hid _ := D4.out.setCell (q := ⟨w3.heap.size, 2, none⟩) BX.out.2 (.int .i64 1000001)
    have B6 : Hid _ := B4.out.setCell (p := ⟨w3.heap.size, 2, none⟩) BX.out.1 (.int .i64 1000001)
    go_wp2
    go_region
    all_goals
      go_wp2
      refine bodyPost_ret (v := .tuple #[.slice (some ⟨W.heap.size, 0, none⟩) bs.length 4, .agg #[.slice ar xs.length cr, .slice ap ys.length cp, .int .i64 1000001, .int .i64 k]]) (by simp [results, Try.results62, go_sem, z0, z1, z2, z3, nn, nn']) rfl ?_
      refine FIN.out (w4.setCell ⟨w3.heap.size, 2, none⟩ (.int .i64 1000001)) _ xs ys _ _ _ _ _ R6.out l5.out D6.out (by have := lp.out; omega) B6.out ?_
      repeat (first | (with_reducible exact grR _ _) | (with_reducible apply grSet) | (with_reducible apply grDrew) | (with_reducible apply grDrewN))
  have e0 : (c == 0) = false := by simpa using h0
  have e1 : (c == 1) = false := by simpa using h1
  have e2 : (c == 2) = false := by simpa using h2
  have e3 : (c == 3) = false := by simpa using h3
  go_wp2
  go_region
  all_goals
    go_wp2
    refine bodyPost_ret (v := .tuple #[.slice (some ⟨W.heap.size, 0, none⟩) bs.length 4, .agg #[.slice ar xs.length cr, .slice ap ys.length cp, .int .i64 v, .int .i64 k]]) (by simp [results, Try.results62, go_sem, z0, z1, z2, z3, nn, nn']) rfl ?_
    refine FIN.out (w4) _ xs ys _ _ _ _ _ R4.out l5.out D4.out (by have := lp.out; omega) B4.out ?_
    repeat (first | (with_reducible exact grR _ _) | (with_reducible apply grSet) | (with_reducible apply grDrew) | (with_reducible apply grDrewN))
end Go.Proofs.Ytgcencilgpilaaa.Own
