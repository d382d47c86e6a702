/-
  Own texts, bundled: L3StepA, L3StepL, L3StepP, Touch.
-/
import Derived.Test.YtokbakphfodabaaDoorPk5
import Derived.Test.YtokbakphfodabaaDoorPk3
import Derived.Test.YtokbakphfodabaaDoorPk4
import Derived.Deep.RegionWith
import Derived.Test.YtokbakphfodabaaDoorPk1
import Derived.BigQuiet
import Derived.Deep.QuietTactic
namespace Go.Proofs.YtokbakphfodabaaDoor.Own
open Go.RowKit
set_option linter.unusedVariables false
set_option linter.unusedSimpArgs false

/-- What a step leaves. -/
def StepPost (bs : List P2) (s : RunSt) (p : Q4) (B rg : Nat) (v : Int) (w : World) (e : Ending) (w' : World) : Prop :=
  ∃ rv' pv', e = .returned (.agg #[rv', pv', .int .i64 v, .int .i64 (stepR bs s p).code]) ∧ Held B rg w' rv' pv' (stepR bs s p) ∧ Kp B rg w w'

/-- The cells that l3Step lays: the run, the instruction, what it will say. -/
structure StepMem (N : Nat) (W : World) (rv pv : Value) (v c : Int) : Prop where
  c0 : W.cell? ⟨N, 0, none⟩ = some rv
  c1 : W.cell? ⟨N, 1, none⟩ = some pv
  c2 : W.cell? ⟨N, 2, none⟩ = some (.int .i64 v)
  c3 : W.cell? ⟨N, 3, none⟩ = some (.int .i64 c)
  f : ∀ o, W.frozen? ⟨N, o, none⟩ = false
  y0 : W.cell? ⟨N + 1 + 1, 0, none⟩ = some (.slice none 0 0)
  y1 : W.cell? ⟨N + 1 + 1, 1, none⟩ = some (.slice none 0 0)
  y2 : W.cell? ⟨N + 1 + 1, 2, none⟩ = some (.int .i64 0)
  y3 : W.cell? ⟨N + 1 + 1, 3, none⟩ = some (.int .i64 0)
  g : ∀ o, W.frozen? ⟨N + 1 + 1, o, none⟩ = false
  lt : N + 1 + 1 < W.heap.size
theorem StepMem.turned {L : List Nat} {N : Nat} {W W' : World} {rv pv : Value} {v c : Int} (h : StepMem N W rv pv v c) (ht : Turned L W W') (h0 : N ∉ L) (h2 : N + 1 + 1 ∉ L) : StepMem N W' rv pv v c := by
  have hl := h.lt
  have e : ∀ o, W'.cell? ⟨N, o, none⟩ = W.cell? ⟨N, o, none⟩ := fun o => World.cell?_of_block (w := W) (a := ⟨N, o, none⟩) (ht.block N (by omega) h0)
  have e2 : ∀ o, W'.cell? ⟨N + 1 + 1, o, none⟩ = W.cell? ⟨N + 1 + 1, o, none⟩ := fun o => World.cell?_of_block (w := W) (a := ⟨N + 1 + 1, o, none⟩) (ht.block (N + 1 + 1) (by omega) h2)
  have i : ∀ o, W'.frozen? ⟨N, o, none⟩ = W.frozen? ⟨N, o, none⟩ := fun o => World.frozen?_of_block (w := W) (a := ⟨N, o, none⟩) (ht.block N (by omega) h0)
  have i2 : ∀ o, W'.frozen? ⟨N + 1 + 1, o, none⟩ = W.frozen? ⟨N + 1 + 1, o, none⟩ := fun o => World.frozen?_of_block (w := W) (a := ⟨N + 1 + 1, o, none⟩) (ht.block (N + 1 + 1) (by omega) h2)
  exact ⟨by rw [e]; exact h.c0, by rw [e]; exact h.c1, by rw [e]; exact h.c2, by rw [e]; exact h.c3, fun o => by rw [i]; exact h.f o, by rw [e2]; exact h.y0, by rw [e2]; exact h.y1, by rw [e2]; exact h.y2, by rw [e2]; exact h.y3, fun o => by rw [i2]; exact h.g o, Nat.lt_of_lt_of_le h.lt ht.size⟩

set_option maxRecDepth 100000 in
set_option maxHeartbeats 4000000 in
theorem l3StepA (la : Option Addr) (lc : Nat) (bs : List P2) (rg rc : Nat) (s : RunSt) (rv pv : Value) (p : Q4) (v : Int) (B : Nat) (w : World)
    (hb : Sl w la bs) (l4 : bs.length = 4) (hla : ∀ x, la = some x → x.block < B) (hh : Held B rg w rv pv s) (hrg : rg < B) (hB : B ≤ w.heap.size) (lx : s.reads.length ≤ 1000) (ly : s.puts.length ≤ 1000)
    (hp : insOk p = true) (h6 : p.1 = 3 ∨ p.1 = 7 ∨ p.1 = 4 ∨ p.1 = 5) (hc : s.code = 0) (hn : ∀ i, i < 4 → numOk (s.regs.getD i 0) = true) :
    Calls Tryd.prog 82 #[.slice la bs.length lc, .agg #[rv, pv, .int .i64 v, .int .i64 s.code], .slice (some ⟨rg, 0, none⟩) 4 rc, .agg #[.int .i64 p.1, .int .i64 p.2.1, .int .i64 p.2.2.1, .int .i64 p.2.2.2]] w fun e w' => StepPost bs s p B rg v w e w' := by
  obtain ⟨kd, pa, pb, pn⟩ := p
  dsimp only at h6 ⊢
  obtain ⟨ar, cr, hrv, slr, hcr, hmr, hbr⟩ := hh.reads.open
  obtain ⟨ap, cp, hpv, slp, hcp, hmp, hbp⟩ := hh.puts.open
  have HH : Hid (Held B rg w rv pv s) := hh
  have HRV : Hid (rv = .slice ar s.reads.length cr) := hrv
  have HPV : Hid (pv = .slice ap s.puts.length cp) := hpv
  have SB : Hid (Sl w la bs) := hb
  have HLA : Hid (∀ x, la = some x → x.block < B) := hla
  have HN : Hid (∀ i, i < 4 → numOk (s.regs.getD i 0) = true) := hn
  have HC : Hid (s.code = 0) := hc
  have HOK : Hid (insOk (kd, pa, pb, pn) = true) := hp
  clear hh slr slp hb hbr hbp hcr hcp hmr hmp hla hn hp
  obtain ⟨W, hW⟩ : ∃ W, W = ((w.alloc (.cells #[.slice ar s.reads.length cr, .slice ap s.puts.length cp, .int .i64 v, .int .i64 0] 32)).alloc (.cells #[.int .i64 kd, .int .i64 pa, .int .i64 pb, .int .i64 pn] 142)).alloc (.cells #[.slice none 0 0, .slice none 0 0, .int .i64 0, .int .i64 0] 32) := ⟨_, rfl⟩
  have BW : Hid (Below w.heap.size w W) := by show Below _ _ _; rw [hW]; exact (((Below.refl _ _).alloc (Nat.le_refl _) _).alloc (by simp) _).alloc (by simp; omega) _
  have HSW : Hid (W.heap.size = w.heap.size + 3) := by show _ = _; rw [hW]; simp
  have g0 : W.heap[w.heap.size]? = some (.cells #[.slice ar s.reads.length cr, .slice ap s.puts.length cp, .int .i64 v, .int .i64 0] 32 (0, 0)) := by
    rw [hW, heap_old _ _ _ (by simp; omega), heap_old _ _ _ (by simp)]; exact heap_new _ _
  have g1 : W.heap[w.heap.size + 1]? = some (.cells #[.int .i64 kd, .int .i64 pa, .int .i64 pb, .int .i64 pn] 142 (0, 0)) := by
    rw [hW, heap_old _ _ _ (by simp)]; exact heap_new2 _ _ _
  have g2 : W.heap[w.heap.size + 1 + 1]? = some (.cells #[.slice none 0 0, .slice none 0 0, .int .i64 0, .int .i64 0] 32 (0, 0)) := by
    rw [hW]
    have := heap_new ((w.alloc (.cells #[.slice ar s.reads.length cr, .slice ap s.puts.length cp, .int .i64 v, .int .i64 0] 32)).alloc (.cells #[.int .i64 kd, .int .i64 pa, .int .i64 pb, .int .i64 pn] 142)) (.cells #[.slice none 0 0, .slice none 0 0, .int .i64 0, .int .i64 0] 32)
    rw [size_new, size_new] at this
    exact this
  have MW : Hid (StepMem w.heap.size W (.slice ar s.reads.length cr) (.slice ap s.puts.length cp) v 0) :=
    ⟨(cell_heap g0 0).trans rfl, (cell_heap g0 1).trans rfl, (cell_heap g0 2).trans rfl, (cell_heap g0 3).trans rfl, fun o => frozen_heap g0 o, (cell_heap g2 0).trans rfl, (cell_heap g2 1).trans rfl, (cell_heap g2 2).trans rfl, (cell_heap g2 3).trans rfl, fun o => frozen_heap g2 o, by have := HSW.out; omega⟩
  have i0 : W.cell? ⟨w.heap.size + 1, 0, none⟩ = some (.int .i64 kd) := (cell_heap g1 0).trans rfl
  have i1 : W.cell? ⟨w.heap.size + 1, 1, none⟩ = some (.int .i64 pa) := (cell_heap g1 1).trans rfl
  have i2 : W.cell? ⟨w.heap.size + 1, 2, none⟩ = some (.int .i64 pb) := (cell_heap g1 2).trans rfl
  have i3 : W.cell? ⟨w.heap.size + 1, 3, none⟩ = some (.int .i64 pn) := (cell_heap g1 3).trans rfl
  have GI : Hid (W.heap[w.heap.size + 1]? = some (.cells #[.int .i64 kd, .int .i64 pa, .int .i64 pb, .int .i64 pn] 142 (0, 0))) := g1
  have HW : Hid (W = _) := hW
  clear hW g0 g1 g2
  have hNW : w.heap.size + 1 + 1 < W.heap.size := by have := HSW.out; omega
  have HHW : Hid (Held B rg W rv pv s) := HH.out.turned (Turned.ofBelow (L := []) BW.out) (by simp) (by simp) (by simp)
  have lR : Hid (∀ g, rv.ownBlock = some g → B ≤ g ∧ g < w.heap.size) := fun g hg => World.ownsRow.lt HH.out.reads g hg
  have lP : Hid (∀ g, pv.ownBlock = some g → B ≤ g ∧ g < w.heap.size) := fun g hg => World.ownsRow.lt HH.out.puts g hg
  have KW : Hid (Kp B rg w W) := (Turned.ofBelow (L := []) BW.out).kp hB (by simp)
  -- from where the run's own cells and what it will say alone turn
  have TAIL : Hid (∀ (w1 W' : World) (rv' pv' : Value) (s' : RunSt), Held B rg w1 rv' pv' s' → Kp B rg w w1 → (∀ g, rv'.ownBlock = some g → g ≠ w.heap.size ∧ g ≠ w.heap.size + 1 + 1) → (∀ g, pv'.ownBlock = some g → g ≠ w.heap.size ∧ g ≠ w.heap.size + 1 + 1) → Turned [w.heap.size, w.heap.size + 1 + 1] w1 W' → Held B rg W' rv' pv' s' ∧ Kp B rg w W') := by
    intro w1 W' rv' pv' s' h1 h2 h3 h4 h5
    refine ⟨h1.turned h5 (by simp; omega) (fun g e => by have := h3 g e; simp; omega) (fun g e => by have := h4 g e; simp; omega), h2.trans (h5.kp (Nat.le_trans hB h2.size) (fun x hx => ?_))⟩
    simp at hx
    omega
  have NR : Hid (∀ g, rv.ownBlock = some g → g ≠ w.heap.size ∧ g ≠ w.heap.size + 1 + 1) := fun g e => by have := lR.out g e; omega
  have NP : Hid (∀ g, pv.ownBlock = some g → g ≠ w.heap.size ∧ g ≠ w.heap.size + 1 + 1) := fun g e => by have := lP.out g e; omega
  obtain ⟨c0, c1, c2, c3, fN, y0, y1, y2, y3, fY, _⟩ := MW.out
  rw [HRV.out, HPV.out, HC.out]
  rcases h6 with rfl | rfl | rfl | rfl
  · -- a number
    have ok := HOK.out
    rw [insOk_3] at ok
    simp only [Bool.and_eq_true] at ok
    obtain ⟨na, hna, rfl⟩ := regOk_nat ok.1.1
    clear ok
    have rga := HHW.out.regs.2 na (by rw [HHW.out.four]; exact hna)
    rw [Nat.zero_add] at rga
    have fa := HHW.out.free na
    have hai : (na : Int) < 4 := by omega
    have rn : ¬ rg = w.heap.size := by omega
    have rn1 : ¬ rg = w.heap.size + 1 := by omega
    have ES : Hid (stepR bs s (3, (na : Int), pb, pn) = setReg s na pn) := by show _ = _; simp [stepR]
    go_enter Tryd.func82, Tryd.ntmps82
    go_upto_region 1 with fail
    rw [← HW.out]
    go_wp2_with fail
    refine (l1Num pn _).mono ?_
    rintro e w1 ⟨rfl, hw⟩
    have T1 : Turned [rg] W w1 := by rw [hw]; exact (Turned.refl _ _).set (by simp) _
    have H1 : Hid (Held B rg w1 rv pv (setReg s na pn)) := by show Held _ _ _ _ _ _; rw [hw]; exact HHW.out.setR hrg na hna pn
    have K1 : Hid (Kp B rg w w1) := KW.out.trans (T1.kp (by omega) (by simp))
    obtain ⟨c0', c1', c2', c3', fN', y0', y1', y2', y3', fY', _⟩ := MW.out.turned T1 (by simp; omega) (by simp; omega)
    clear hw T1 c0 c1 c2 c3 fN y0 y1 y2 y3 fY
    cases hk : numOk pn with
    | true =>
      have EC : Hid ((setReg s na pn).code = 0) := by show _ = _; simp [setReg, hk, HC.out]
      go_wp2
      refine bodyPost_ret (v := .agg #[.slice ar s.reads.length cr, .slice ap s.puts.length cp, .int .i64 v, .int .i64 0]) (by simp [results, Tryd.results82, go_sem, y0', y1', y2', y3']) rfl ⟨rv, pv, by rw [HRV.out, HPV.out, ES.out, EC.out], ?_⟩
      rw [ES.out]
      refine TAIL.out w1 _ rv pv _ H1.out K1.out NR.out NP.out ?_
      repeat (first | exact Turned.refl _ _ | refine Turned.set ?_ (by simp) _)
    | false =>
      have EC : Hid ((setReg s na pn).code = 2) := by show _ = _; simp [setReg, hk]
      go_wp2
      refine bodyPost_ret (v := .agg #[.slice ar s.reads.length cr, .slice ap s.puts.length cp, .int .i64 v, .int .i64 2]) (by simp [results, Tryd.results82, go_sem, y0', y1', y2', y3']) rfl ⟨rv, pv, by rw [HRV.out, HPV.out, ES.out, EC.out], ?_⟩
      rw [ES.out]
      refine TAIL.out w1 _ rv pv _ H1.out K1.out NR.out NP.out ?_
      repeat (first | exact Turned.refl _ _ | refine Turned.set ?_ (by simp) _)
  · -- the end
    have ok := HOK.out
    rw [insOk_7] at ok
    simp only [Bool.and_eq_true, beq_iff_eq] at ok
    obtain ⟨⟨rfl, rfl⟩, rfl⟩ := ok
    have rga := HHW.out.regs.2 0 (by rw [HHW.out.four]; omega)
    rw [Nat.zero_add] at rga
    have EN : Hid (numOk (s.regs.getD 0 0) = true) := HN.out 0 (by omega)
    generalize s.regs.getD 0 0 = x at rga EN
    have rn : ¬ rg = w.heap.size := by omega
    have rn' : ¬ w.heap.size = rg := by omega
    have ES : Hid (stepR bs s (7, 0, 0, 0) = { s with code := 1 }) := by show _ = _; simp [stepR]
    go_enter Tryd.func82, Tryd.ntmps82
    go_upto_region 1 with fail
    rw [← HW.out]
    go_wp2_with fail
    refine (l1Num x _).mono ?_
    rintro e w1 ⟨rfl, hw⟩
    rw [hw, EN.out]
    clear hw
    go_wp2
    refine bodyPost_ret (v := .agg #[.slice ar s.reads.length cr, .slice ap s.puts.length cp, .int .i64 v, .int .i64 1]) (by simp [results, Tryd.results82, go_sem, y0, y1, y2, y3]) rfl ⟨rv, pv, by rw [HRV.out, HPV.out, ES.out], ?_⟩
    rw [ES.out]
    refine TAIL.out W _ rv pv _ (HHW.out.code 1) KW.out NR.out NP.out ?_
    repeat (first | exact Turned.refl _ _ | refine Turned.set ?_ (by simp) _)
  · -- a sum
    have ok := HOK.out
    rw [insOk_4] at ok
    simp only [Bool.and_eq_true] at ok
    obtain ⟨na, hna, rfl⟩ := regOk_nat ok.1.1
    obtain ⟨nb, hnb, rfl⟩ := regOk_nat ok.1.2
    clear ok
    have hai : (na : Int) < 4 := by omega
    have hbi : (nb : Int) < 4 := by omega
    have rga := HHW.out.regs.2 na (by rw [HHW.out.four]; exact hna)
    have rgb := HHW.out.regs.2 nb (by rw [HHW.out.four]; exact hnb)
    rw [Nat.zero_add] at rga rgb
    have fa := HHW.out.free na
    have ba := HN.out na hna
    have bb := HN.out nb hnb
    have ES : Hid (stepR bs s (4, (na : Int), (nb : Int), pn) = setReg s na (s.regs.getD na 0 + s.regs.getD nb 0)) := by show _ = _; simp [stepR]
    generalize s.regs.getD na 0 = x at rga ba ES
    generalize s.regs.getD nb 0 = y at rgb bb ES
    simp only [numOk, Bool.and_eq_true, decide_eq_true_eq] at ba bb
    obtain ⟨ba0, ba1⟩ := ba
    obtain ⟨bb0, bb1⟩ := bb
    have wr : IntKind.i64.wrap (x + y) = x + y := by rw [IntKind.wrap_i64]; omega
    have rn : ¬ rg = w.heap.size := by omega
    have rn1 : ¬ rg = w.heap.size + 1 := by omega
    have rn' : ¬ w.heap.size + 1 = rg := by omega
    go_enter Tryd.func82, Tryd.ntmps82
    go_upto_region 1 with fail
    rw [← HW.out]
    go_upto_region 11 with fail
    refine region_still_tail 15 (by kernel_rfl) (by kernel_rfl) ?_
    simp only [List.take_succ_cons, List.take_zero, List.drop_succ_cons, List.drop_zero]
    iterate 15 still_step
    refine wpStill_nil ?_
    go_wp2_with fail
    refine (l1Num (x + y) _).mono ?_
    rintro e w1 ⟨rfl, hw⟩
    have T1 : Turned [rg] W w1 := by rw [hw]; exact (Turned.refl _ _).drew.set (by simp) _
    have H1 : Hid (Held B rg w1 rv pv (setReg s na (x + y))) := by show Held _ _ _ _ _ _; rw [hw]; exact (HHW.out.turned (L := []) (Turned.refl _ _).drew (by simp) (by simp) (by simp)).setR hrg na hna _
    have K1 : Hid (Kp B rg w w1) := KW.out.trans (T1.kp (by omega) (by simp))
    obtain ⟨c0', c1', c2', c3', fN', y0', y1', y2', y3', fY', _⟩ := MW.out.turned T1 (by simp; omega) (by simp; omega)
    clear hw T1 c0 c1 c2 c3 fN y0 y1 y2 y3 fY
    cases hk : numOk (x + y) with
    | true =>
      have EC : Hid ((setReg s na (x + y)).code = 0) := by show _ = _; simp [setReg, hk, HC.out]
      go_wp2
      refine bodyPost_ret (v := .agg #[.slice ar s.reads.length cr, .slice ap s.puts.length cp, .int .i64 v, .int .i64 0]) (by simp [results, Tryd.results82, go_sem, y0', y1', y2', y3']) rfl ⟨rv, pv, by rw [HRV.out, HPV.out, ES.out, EC.out], ?_⟩
      rw [ES.out]
      refine TAIL.out w1 _ rv pv _ H1.out K1.out NR.out NP.out ?_
      repeat (first | exact Turned.refl _ _ | refine Turned.set ?_ (by simp) _)
    | false =>
      have EC : Hid ((setReg s na (x + y)).code = 2) := by show _ = _; simp [setReg, hk]
      go_wp2
      refine bodyPost_ret (v := .agg #[.slice ar s.reads.length cr, .slice ap s.puts.length cp, .int .i64 v, .int .i64 2]) (by simp [results, Tryd.results82, go_sem, y0', y1', y2', y3']) rfl ⟨rv, pv, by rw [HRV.out, HPV.out, ES.out, EC.out], ?_⟩
      rw [ES.out]
      refine TAIL.out w1 _ rv pv _ H1.out K1.out NR.out NP.out ?_
      repeat (first | exact Turned.refl _ _ | refine Turned.set ?_ (by simp) _)
  · -- a difference
    have ok := HOK.out
    rw [insOk_5] at ok
    simp only [Bool.and_eq_true] at ok
    obtain ⟨na, hna, rfl⟩ := regOk_nat ok.1.1
    obtain ⟨nb, hnb, rfl⟩ := regOk_nat ok.1.2
    clear ok
    have hai : (na : Int) < 4 := by omega
    have hbi : (nb : Int) < 4 := by omega
    have rga := HHW.out.regs.2 na (by rw [HHW.out.four]; exact hna)
    have rgb := HHW.out.regs.2 nb (by rw [HHW.out.four]; exact hnb)
    rw [Nat.zero_add] at rga rgb
    have fa := HHW.out.free na
    have ba := HN.out na hna
    have bb := HN.out nb hnb
    have ES : Hid (stepR bs s (5, (na : Int), (nb : Int), pn) = setReg s na (s.regs.getD na 0 - s.regs.getD nb 0)) := by show _ = _; simp [stepR]
    generalize s.regs.getD na 0 = x at rga ba ES
    generalize s.regs.getD nb 0 = y at rgb bb ES
    simp only [numOk, Bool.and_eq_true, decide_eq_true_eq] at ba bb
    obtain ⟨ba0, ba1⟩ := ba
    obtain ⟨bb0, bb1⟩ := bb
    have wr : IntKind.i64.wrap (x - y) = x - y := by rw [IntKind.wrap_i64]; omega
    have rn : ¬ rg = w.heap.size := by omega
    have rn1 : ¬ rg = w.heap.size + 1 := by omega
    have rn' : ¬ w.heap.size + 1 = rg := by omega
    go_enter Tryd.func82, Tryd.ntmps82
    go_upto_region 1 with fail
    rw [← HW.out]
    go_upto_region 13 with fail
    refine region_still_tail 15 (by kernel_rfl) (by kernel_rfl) ?_
    simp only [List.take_succ_cons, List.take_zero, List.drop_succ_cons, List.drop_zero]
    iterate 15 still_step
    refine wpStill_nil ?_
    go_wp2_with fail
    refine (l1Num (x - y) _).mono ?_
    rintro e w1 ⟨rfl, hw⟩
    have T1 : Turned [rg] W w1 := by rw [hw]; exact (Turned.refl _ _).drew.set (by simp) _
    have H1 : Hid (Held B rg w1 rv pv (setReg s na (x - y))) := by show Held _ _ _ _ _ _; rw [hw]; exact (HHW.out.turned (L := []) (Turned.refl _ _).drew (by simp) (by simp) (by simp)).setR hrg na hna _
    have K1 : Hid (Kp B rg w w1) := KW.out.trans (T1.kp (by omega) (by simp))
    obtain ⟨c0', c1', c2', c3', fN', y0', y1', y2', y3', fY', _⟩ := MW.out.turned T1 (by simp; omega) (by simp; omega)
    clear hw T1 c0 c1 c2 c3 fN y0 y1 y2 y3 fY
    cases hk : numOk (x - y) with
    | true =>
      have EC : Hid ((setReg s na (x - y)).code = 0) := by show _ = _; simp [setReg, hk, HC.out]
      go_wp2
      refine bodyPost_ret (v := .agg #[.slice ar s.reads.length cr, .slice ap s.puts.length cp, .int .i64 v, .int .i64 0]) (by simp [results, Tryd.results82, go_sem, y0', y1', y2', y3']) rfl ⟨rv, pv, by rw [HRV.out, HPV.out, ES.out, EC.out], ?_⟩
      rw [ES.out]
      refine TAIL.out w1 _ rv pv _ H1.out K1.out NR.out NP.out ?_
      repeat (first | exact Turned.refl _ _ | refine Turned.set ?_ (by simp) _)
    | false =>
      have EC : Hid ((setReg s na (x - y)).code = 2) := by show _ = _; simp [setReg, hk]
      go_wp2
      refine bodyPost_ret (v := .agg #[.slice ar s.reads.length cr, .slice ap s.puts.length cp, .int .i64 v, .int .i64 2]) (by simp [results, Tryd.results82, go_sem, y0', y1', y2', y3']) rfl ⟨rv, pv, by rw [HRV.out, HPV.out, ES.out, EC.out], ?_⟩
      rw [ES.out]
      refine TAIL.out w1 _ rv pv _ H1.out K1.out NR.out NP.out ?_
      repeat (first | exact Turned.refl _ _ | refine Turned.set ?_ (by simp) _)
end Go.Proofs.YtokbakphfodabaaDoor.Own

namespace Go.Proofs.YtokbakphfodabaaDoor.Own
open Go.RowKit
set_option linter.unusedVariables false
set_option linter.unusedSimpArgs false

/-- Four cells of the run laid anew. -/
theorem StepMem.put4 {N : Nat} {W : World} {rv pv rv' pv' : Value} {v c v' c' : Int} (h : StepMem N W rv pv v c) :
    StepMem N ((((W.setCell ⟨N, 0, none⟩ rv').setCell ⟨N, 1, none⟩ pv').setCell ⟨N, 2, none⟩ (.int .i64 v')).setCell ⟨N, 3, none⟩ (.int .i64 c')) rv' pv' v' c' := by
  have ne : ∀ o (u : World) (x : Value) o', (u.setCell ⟨N, o, none⟩ x).cell? ⟨N + 1 + 1, o', none⟩ = u.cell? ⟨N + 1 + 1, o', none⟩ := fun o u x o' => World.cell?_setCell_other _ _ _ _ (by intro e; injection e with e1 _ _; omega)
  refine ⟨?_, ?_, ?_, ?_, fun o => by simpa using h.f o, ?_, ?_, ?_, ?_, fun o => by simpa using h.g o, by simpa [World.setCell] using h.lt⟩
  · rw [setCell_cell_other _ _ _ _ _ (by omega), setCell_cell_other _ _ _ _ _ (by omega), setCell_cell_other _ _ _ _ _ (by omega)]
    exact setCell_cell_same _ _ _ _ _ h.c0
  · rw [setCell_cell_other _ _ _ _ _ (by omega), setCell_cell_other _ _ _ _ _ (by omega)]
    exact setCell_cell_same _ _ _ _ _ (by rw [setCell_cell_other _ _ _ _ _ (by omega)]; exact h.c1)
  · rw [setCell_cell_other _ _ _ _ _ (by omega)]
    exact setCell_cell_same _ _ _ _ _ (by rw [setCell_cell_other _ _ _ _ _ (by omega), setCell_cell_other _ _ _ _ _ (by omega)]; exact h.c2)
  · exact setCell_cell_same _ _ _ _ _ (by rw [setCell_cell_other _ _ _ _ _ (by omega), setCell_cell_other _ _ _ _ _ (by omega), setCell_cell_other _ _ _ _ _ (by omega)]; exact h.c3)
  · rw [ne, ne, ne, ne]; exact h.y0
  · rw [ne, ne, ne, ne]; exact h.y1
  · rw [ne, ne, ne, ne]; exact h.y2
  · rw [ne, ne, ne, ne]; exact h.y3

set_option maxRecDepth 100000 in
set_option maxHeartbeats 4000000 in
theorem l3StepL (la : Option Addr) (lc : Nat) (bs : List P2) (rg rc : Nat) (s : RunSt) (rv pv : Value) (p : Q4) (v : Int) (B : Nat) (w : World)
    (hb : Sl w la bs) (l4 : bs.length = 4) (hla : ∀ x, la = some x → x.block < B) (hh : Held B rg w rv pv s) (hrg : rg < B) (hB : B ≤ w.heap.size) (lx : s.reads.length ≤ 1000) (ly : s.puts.length ≤ 1000)
    (hp : insOk p = true) (h6 : p.1 = 1) (hc : s.code = 0) (hn : ∀ i, i < 4 → numOk (s.regs.getD i 0) = true) :
    Calls Tryd.prog 82 #[.slice la bs.length lc, .agg #[rv, pv, .int .i64 v, .int .i64 s.code], .slice (some ⟨rg, 0, none⟩) 4 rc, .agg #[.int .i64 p.1, .int .i64 p.2.1, .int .i64 p.2.2.1, .int .i64 p.2.2.2]] w fun e w' => StepPost bs s p B rg v w e w' := by
  obtain ⟨kd, pa, pb, pn⟩ := p
  dsimp only at h6 ⊢
  obtain ⟨ar, cr, hrv, slr, hcr, hmr, hbr⟩ := hh.reads.open
  obtain ⟨ap, cp, hpv, slp, hcp, hmp, hbp⟩ := hh.puts.open
  have HH : Hid (Held B rg w rv pv s) := hh
  have HRV : Hid (rv = .slice ar s.reads.length cr) := hrv
  have HPV : Hid (pv = .slice ap s.puts.length cp) := hpv
  have SB : Hid (Sl w la bs) := hb
  have HLA : Hid (∀ x, la = some x → x.block < B) := hla
  have HN : Hid (∀ i, i < 4 → numOk (s.regs.getD i 0) = true) := hn
  have HC : Hid (s.code = 0) := hc
  have HOK : Hid (insOk (kd, pa, pb, pn) = true) := hp
  have HL4 : Hid (bs.length = 4) := l4
  clear l4 hh slr slp hb hbr hbp hcr hcp hmr hmp hla hn hp
  obtain ⟨W, hW⟩ : ∃ W, W = ((w.alloc (.cells #[.slice ar s.reads.length cr, .slice ap s.puts.length cp, .int .i64 v, .int .i64 0] 32)).alloc (.cells #[.int .i64 kd, .int .i64 pa, .int .i64 pb, .int .i64 pn] 142)).alloc (.cells #[.slice none 0 0, .slice none 0 0, .int .i64 0, .int .i64 0] 32) := ⟨_, rfl⟩
  have BW : Hid (Below w.heap.size w W) := by show Below _ _ _; rw [hW]; exact (((Below.refl _ _).alloc (Nat.le_refl _) _).alloc (by simp) _).alloc (by simp; omega) _
  have HSW : Hid (W.heap.size = w.heap.size + 3) := by show _ = _; rw [hW]; simp
  have g0 : W.heap[w.heap.size]? = some (.cells #[.slice ar s.reads.length cr, .slice ap s.puts.length cp, .int .i64 v, .int .i64 0] 32 (0, 0)) := by
    rw [hW, heap_old _ _ _ (by simp; omega), heap_old _ _ _ (by simp)]; exact heap_new _ _
  have g1 : W.heap[w.heap.size + 1]? = some (.cells #[.int .i64 kd, .int .i64 pa, .int .i64 pb, .int .i64 pn] 142 (0, 0)) := by
    rw [hW, heap_old _ _ _ (by simp)]; exact heap_new2 _ _ _
  have g2 : W.heap[w.heap.size + 1 + 1]? = some (.cells #[.slice none 0 0, .slice none 0 0, .int .i64 0, .int .i64 0] 32 (0, 0)) := by
    rw [hW]
    have := heap_new ((w.alloc (.cells #[.slice ar s.reads.length cr, .slice ap s.puts.length cp, .int .i64 v, .int .i64 0] 32)).alloc (.cells #[.int .i64 kd, .int .i64 pa, .int .i64 pb, .int .i64 pn] 142)) (.cells #[.slice none 0 0, .slice none 0 0, .int .i64 0, .int .i64 0] 32)
    rw [size_new, size_new] at this
    exact this
  have MW : Hid (StepMem w.heap.size W (.slice ar s.reads.length cr) (.slice ap s.puts.length cp) v 0) :=
    ⟨(cell_heap g0 0).trans rfl, (cell_heap g0 1).trans rfl, (cell_heap g0 2).trans rfl, (cell_heap g0 3).trans rfl, fun o => frozen_heap g0 o, (cell_heap g2 0).trans rfl, (cell_heap g2 1).trans rfl, (cell_heap g2 2).trans rfl, (cell_heap g2 3).trans rfl, fun o => frozen_heap g2 o, by have := HSW.out; omega⟩
  have i0 : W.cell? ⟨w.heap.size + 1, 0, none⟩ = some (.int .i64 kd) := (cell_heap g1 0).trans rfl
  have i1 : W.cell? ⟨w.heap.size + 1, 1, none⟩ = some (.int .i64 pa) := (cell_heap g1 1).trans rfl
  have i2 : W.cell? ⟨w.heap.size + 1, 2, none⟩ = some (.int .i64 pb) := (cell_heap g1 2).trans rfl
  have i3 : W.cell? ⟨w.heap.size + 1, 3, none⟩ = some (.int .i64 pn) := (cell_heap g1 3).trans rfl
  have GI : Hid (W.heap[w.heap.size + 1]? = some (.cells #[.int .i64 kd, .int .i64 pa, .int .i64 pb, .int .i64 pn] 142 (0, 0))) := g1
  have HW : Hid (W = _) := hW
  clear hW g0 g1 g2
  have hNW : w.heap.size + 1 + 1 < W.heap.size := by have := HSW.out; omega
  have HHW : Hid (Held B rg W rv pv s) := HH.out.turned (Turned.ofBelow (L := []) BW.out) (by simp) (by simp) (by simp)
  have lR : Hid (∀ g, rv.ownBlock = some g → B ≤ g ∧ g < w.heap.size) := fun g hg => World.ownsRow.lt HH.out.reads g hg
  have lP : Hid (∀ g, pv.ownBlock = some g → B ≤ g ∧ g < w.heap.size) := fun g hg => World.ownsRow.lt HH.out.puts g hg
  have KW : Hid (Kp B rg w W) := (Turned.ofBelow (L := []) BW.out).kp hB (by simp)
  -- from where the run's own cells and what it will say alone turn
  have TAIL : Hid (∀ (w1 W' : World) (rv' pv' : Value) (s' : RunSt), Held B rg w1 rv' pv' s' → Kp B rg w w1 → (∀ g, rv'.ownBlock = some g → g ≠ w.heap.size ∧ g ≠ w.heap.size + 1 + 1) → (∀ g, pv'.ownBlock = some g → g ≠ w.heap.size ∧ g ≠ w.heap.size + 1 + 1) → Turned [w.heap.size, w.heap.size + 1 + 1] w1 W' → Held B rg W' rv' pv' s' ∧ Kp B rg w W') := by
    intro w1 W' rv' pv' s' h1 h2 h3 h4 h5
    refine ⟨h1.turned h5 (by simp; omega) (fun g e => by have := h3 g e; simp; omega) (fun g e => by have := h4 g e; simp; omega), h2.trans (h5.kp (Nat.le_trans hB h2.size) (fun x hx => ?_))⟩
    simp at hx
    omega
  have NR : Hid (∀ g, rv.ownBlock = some g → g ≠ w.heap.size ∧ g ≠ w.heap.size + 1 + 1) := fun g e => by have := lR.out g e; omega
  have NP : Hid (∀ g, pv.ownBlock = some g → g ≠ w.heap.size ∧ g ≠ w.heap.size + 1 + 1) := fun g e => by have := lP.out g e; omega
  obtain ⟨c0, c1, c2, c3, fN, y0, y1, y2, y3, fY, _⟩ := MW.out
  rw [HRV.out, HPV.out, HC.out]
  subst h6
  · -- a look
    have ok := HOK.out
    rw [insOk_1] at ok
    simp only [Bool.and_eq_true] at ok
    obtain ⟨na, hna, rfl⟩ := regOk_nat ok.1.1
    obtain ⟨nb, hnb, rfl⟩ := regOk_nat ok.1.2
    clear ok
    have hai : (na : Int) < 4 := by omega
    have rn : ¬ rg = w.heap.size := by omega
    have rn' : ¬ w.heap.size = rg := by omega
    have rm : ¬ rg = w.heap.size + 1 := by omega
    have rm' : ¬ w.heap.size + 1 = rg := by omega
    have ES : Hid (stepR bs s (1, (na : Int), (nb : Int), pn) = setReg { s with reads := lookR bs s.reads s.puts nb } na (inBox bs s.puts nb)) := by show _ = _; simp [stepR]
    have LK : Hid (Calls Tryd.prog 91 #[.slice la bs.length lc, .agg #[.slice ar s.reads.length cr, .slice ap s.puts.length cp, .int .i64 v, .int .i64 0], .int .i64 nb] W fun e w' => LookPost bs s.reads s.puts nb B rv pv v 0 W e w') := by
      have h := l3Look la lc bs nb rv pv s.reads s.puts v 0 B W (SB.out.below BW.out) (by rw [HL4.out]; exact hnb) (by rw [HL4.out]; omega) (fun x e e' => by have h1 := HLA.out x e; have h2 := (lR.out _ e').1; omega) HHW.out.reads HHW.out.puts HHW.out.apart (by omega) lx ly
      rw [HRV.out, HPV.out] at h ⊢
      exact h
    clear c0 c1 c2 c3 fN y0 y1 y2 y3 fY
    obtain ⟨c0, c1, c2, c3, fN, y0, y1, y2, y3, fY, _⟩ := MW.out
    go_enter Tryd.func82, Tryd.ntmps82
    go_upto_region 1 with fail
    rw [← HW.out]
    go_wp2_with fail
    refine Calls.mono LK.out ?_
    rintro e w2 ⟨rv2, rfl, o1, o2, ap2, gr, hnew⟩
    obtain ⟨a2, cc2, hrv2, _, _, _, _⟩ := o1.open
    have T2 : Turned rv.ownBlock.toList W w2 := Turned.ofGrown gr (fun g e => by simp [e])
    have nmem : ∀ x, w.heap.size ≤ x → x ∉ rv.ownBlock.toList := fun x hx e => by
      rw [Option.mem_toList] at e
      have := lR.out x e
      omega
    have nrg : rg ∉ rv.ownBlock.toList := fun e => by
      rw [Option.mem_toList] at e
      have := lR.out rg e
      omega
    have hs2 : W.heap.size ≤ w2.heap.size := gr.size
    have H2 : Held B rg w2 rv2 pv { s with reads := lookR bs s.reads s.puts nb } := ⟨HHW.out.regs.turned T2 nrg, HHW.out.four, fun o => by rw [World.frozen?_of_block (w := W) (a := ⟨rg, o, none⟩) (T2.block rg HHW.out.regs.1 nrg)]; exact HHW.out.free o, o1, o2, ap2⟩
    obtain ⟨X, hX⟩ : ∃ X, X = w2.alloc (.cells #[.slice a2 (lookR bs s.reads s.puts nb).length cc2, .slice ap s.puts.length cp, .int .i64 v, .int .i64 0] 32) := ⟨_, rfl⟩
    have T3 : Turned [] w2 X := by rw [hX]; exact (Turned.refl _ _).alloc _
    have hsX : X.heap.size = w2.heap.size + 1 := by rw [hX]; simp
    have gX : X.heap[w2.heap.size]? = some (.cells #[.slice a2 (lookR bs s.reads s.puts nb).length cc2, .slice ap s.puts.length cp, .int .i64 v, .int .i64 0] 32 (0, 0)) := by rw [hX]; exact heap_new _ _
    have x0 : X.cell? ⟨w2.heap.size, 0, none⟩ = some (.slice a2 (lookR bs s.reads s.puts nb).length cc2) := (cell_heap gX 0).trans rfl
    have x1 : X.cell? ⟨w2.heap.size, 1, none⟩ = some (.slice ap s.puts.length cp) := (cell_heap gX 1).trans rfl
    have x2 : X.cell? ⟨w2.heap.size, 2, none⟩ = some (.int .i64 v) := (cell_heap gX 2).trans rfl
    have x3 : X.cell? ⟨w2.heap.size, 3, none⟩ = some (.int .i64 0) := (cell_heap gX 3).trans rfl
    have M3 : Hid (StepMem w.heap.size X (.slice ar s.reads.length cr) (.slice ap s.puts.length cp) v 0) := (MW.out.turned T2 (nmem _ (Nat.le_refl _)) (nmem _ (by omega))).turned T3 (by simp) (by simp)
    have H3 : Hid (Held B rg X rv2 pv { s with reads := lookR bs s.reads s.puts nb }) := H2.turned T3 (by simp) (by simp) (by simp)
    have K3 : Hid (Kp B rg w X) := KW.out.trans ((T2.kp (by omega) (fun x e => by rw [Option.mem_toList] at e; exact .inl (lR.out x e).1)).trans (T3.kp (by omega) (by simp)))
    have tX : ∀ o, X.cell? ⟨w.heap.size + 1, o, none⟩ = W.cell? ⟨w.heap.size + 1, o, none⟩ := fun o => (World.cell?_of_block (w := w2) (a := ⟨w.heap.size + 1, o, none⟩) (T3.block _ (by show w.heap.size + 1 < _; omega) (by simp))).trans (World.cell?_of_block (w := W) (a := ⟨w.heap.size + 1, o, none⟩) (T2.block _ (by show w.heap.size + 1 < _; omega) (nmem (w.heap.size + 1) (by omega))))
    have j1 : X.cell? ⟨w.heap.size + 1, 1, none⟩ = some (.int .i64 na) := (tX 1).trans i1
    have j0 : X.cell? ⟨w.heap.size + 1, 0, none⟩ = some (.int .i64 1) := (tX 0).trans i0
    have rga := H3.out.regs.2 na (by rw [H3.out.four]; exact hna)
    rw [Nat.zero_add] at rga
    have fa := H3.out.free na
    have NR2 : Hid (∀ g, rv2.ownBlock = some g → g ≠ w.heap.size ∧ g ≠ w.heap.size + 1 + 1) := fun g e => by
      have h2 := World.ownsRow.lt o1 g e
      rcases hnew g e with h | h
      · have := lR.out g h; omega
      · omega
    have HRV2 : Hid (rv2 = .slice a2 (lookR bs s.reads s.puts nb).length cc2) := hrv2
    have hN2 : ¬ w.heap.size = w2.heap.size := by omega
    have hN2' : ¬ w2.heap.size = w.heap.size := by omega
    have hN3 : ¬ w.heap.size + 1 = w2.heap.size := by omega
    have hN3' : ¬ w2.heap.size = w.heap.size + 1 := by omega
    have rg2 : ¬ rg = w2.heap.size := by omega
    have rg2' : ¬ w2.heap.size = rg := by omega
    obtain ⟨d0, d1, d2, d3, fM, e0, e1, e2, e3, fZ, _⟩ := M3.out
    have HX : Hid (X = _) := hX
    rw [hrv2, HPV.out]
    clear o1 o2 ap2 gr hnew hrv2 T2 T3 H2 nmem c0 c1 c2 c3 fN y0 y1 y2 y3 fY hX gX tX i0 i1 i2 i3
    go_upto_region 4 with fail
    rw [← HX.out]
    go_wp2_with fail
    refine (l1Num (inBox bs s.puts nb) _).mono ?_
    rintro e w1 ⟨rfl, hw⟩
    have TR : Turned [rg] X (X.setCell ⟨rg, na, none⟩ (.int .i64 (inBox bs s.puts nb))) := (Turned.refl _ _).set (by simp) _
    have HR1 := H3.out.setR hrg na hna (inBox bs s.puts nb)
    have MR1 := M3.out.turned TR (by simp; omega) (by simp; omega)
    have KR1 := K3.out.trans (TR.kp (B := B) (rg := rg) (by have := K3.out.size; omega) (by simp))
    obtain ⟨Y, hY⟩ : ∃ Y, Y = X.setCell ⟨rg, na, none⟩ (.int .i64 (inBox bs s.puts nb)) := ⟨_, rfl⟩
    rw [← hY] at HR1 MR1 KR1 hw
    have T1 : Turned [w.heap.size] Y w1 := by rw [hw]; exact ((((Turned.refl _ _).set (by simp) _).set (by simp) _).set (by simp) _).set (by simp) _
    have M1 : StepMem w.heap.size w1 (.slice a2 (lookR bs s.reads s.puts nb).length cc2) (.slice ap s.puts.length cp) v 0 := by rw [hw]; exact MR1.put4
    have H1 : Hid (Held B rg w1 rv2 pv (setReg { s with reads := lookR bs s.reads s.puts nb } na (inBox bs s.puts nb))) := HR1.turned T1 (by simp; omega) (fun g e => by have := NR2.out g e; simp; omega) (fun g e => by have := NP.out g e; simp; omega)
    have K1 : Hid (Kp B rg w w1) := KR1.trans (T1.kp (by have := KR1.size; omega) (by simp; omega))
    obtain ⟨c0', c1', c2', c3', fN', y0', y1', y2', y3', fY', _⟩ := M1
    clear hw T1 TR HR1 MR1 KR1 hY Y d0 d1 d2 d3 fM e0 e1 e2 e3 fZ x0 x1 x2 x3 rga fa
    cases hk : numOk (inBox bs s.puts nb) with
    | true =>
      have EC : Hid ((setReg { s with reads := lookR bs s.reads s.puts nb } na (inBox bs s.puts nb)).code = 0) := by show _ = _; simp [setReg, hk, HC.out]
      go_wp2
      refine bodyPost_ret (v := .agg #[.slice a2 (lookR bs s.reads s.puts nb).length cc2, .slice ap s.puts.length cp, .int .i64 v, .int .i64 0]) (by simp [results, Tryd.results82, go_sem, y0', y1', y2', y3']) rfl ⟨rv2, pv, by rw [HRV2.out, HPV.out, ES.out, EC.out], ?_⟩
      rw [ES.out]
      refine TAIL.out w1 _ rv2 pv _ H1.out K1.out NR2.out NP.out ?_
      repeat (first | exact Turned.refl _ _ | refine Turned.set ?_ (by simp) _)
    | false =>
      have EC : Hid ((setReg { s with reads := lookR bs s.reads s.puts nb } na (inBox bs s.puts nb)).code = 2) := by show _ = _; simp [setReg, hk]
      go_wp2
      refine bodyPost_ret (v := .agg #[.slice a2 (lookR bs s.reads s.puts nb).length cc2, .slice ap s.puts.length cp, .int .i64 v, .int .i64 2]) (by simp [results, Tryd.results82, go_sem, y0', y1', y2', y3']) rfl ⟨rv2, pv, by rw [HRV2.out, HPV.out, ES.out, EC.out], ?_⟩
      rw [ES.out]
      refine TAIL.out w1 _ rv2 pv _ H1.out K1.out NR2.out NP.out ?_
      repeat (first | exact Turned.refl _ _ | refine Turned.set ?_ (by simp) _)
end Go.Proofs.YtokbakphfodabaaDoor.Own

namespace Go.Proofs.YtokbakphfodabaaDoor.Own
open Go.RowKit
set_option linter.unusedVariables false
set_option linter.unusedSimpArgs false

set_option maxRecDepth 100000 in
set_option maxHeartbeats 4000000 in
theorem l3StepP (la : Option Addr) (lc : Nat) (bs : List P2) (rg rc : Nat) (s : RunSt) (rv pv : Value) (p : Q4) (v : Int) (B : Nat) (w : World)
    (hb : Sl w la bs) (l4 : bs.length = 4) (hla : ∀ x, la = some x → x.block < B) (hh : Held B rg w rv pv s) (hrg : rg < B) (hB : B ≤ w.heap.size) (lx : s.reads.length ≤ 1000) (ly : s.puts.length ≤ 1000)
    (hp : insOk p = true) (h6 : p.1 = 2) (hc : s.code = 0) (hn : ∀ i, i < 4 → numOk (s.regs.getD i 0) = true) :
    Calls Tryd.prog 82 #[.slice la bs.length lc, .agg #[rv, pv, .int .i64 v, .int .i64 s.code], .slice (some ⟨rg, 0, none⟩) 4 rc, .agg #[.int .i64 p.1, .int .i64 p.2.1, .int .i64 p.2.2.1, .int .i64 p.2.2.2]] w fun e w' => StepPost bs s p B rg v w e w' := by
  obtain ⟨kd, pa, pb, pn⟩ := p
  dsimp only at h6 ⊢
  obtain ⟨ar, cr, hrv, slr, hcr, hmr, hbr⟩ := hh.reads.open
  obtain ⟨ap, cp, hpv, slp, hcp, hmp, hbp⟩ := hh.puts.open
  have HH : Hid (Held B rg w rv pv s) := hh
  have HRV : Hid (rv = .slice ar s.reads.length cr) := hrv
  have HPV : Hid (pv = .slice ap s.puts.length cp) := hpv
  have SB : Hid (Sl w la bs) := hb
  have HLA : Hid (∀ x, la = some x → x.block < B) := hla
  have HN : Hid (∀ i, i < 4 → numOk (s.regs.getD i 0) = true) := hn
  have HC : Hid (s.code = 0) := hc
  have HOK : Hid (insOk (kd, pa, pb, pn) = true) := hp
  have HL4 : Hid (bs.length = 4) := l4
  clear l4 hh slr slp hb hbr hbp hcr hcp hmr hmp hla hn hp
  obtain ⟨W, hW⟩ : ∃ W, W = ((w.alloc (.cells #[.slice ar s.reads.length cr, .slice ap s.puts.length cp, .int .i64 v, .int .i64 0] 32)).alloc (.cells #[.int .i64 kd, .int .i64 pa, .int .i64 pb, .int .i64 pn] 142)).alloc (.cells #[.slice none 0 0, .slice none 0 0, .int .i64 0, .int .i64 0] 32) := ⟨_, rfl⟩
  have BW : Hid (Below w.heap.size w W) := by show Below _ _ _; rw [hW]; exact (((Below.refl _ _).alloc (Nat.le_refl _) _).alloc (by simp) _).alloc (by simp; omega) _
  have HSW : Hid (W.heap.size = w.heap.size + 3) := by show _ = _; rw [hW]; simp
  have g0 : W.heap[w.heap.size]? = some (.cells #[.slice ar s.reads.length cr, .slice ap s.puts.length cp, .int .i64 v, .int .i64 0] 32 (0, 0)) := by
    rw [hW, heap_old _ _ _ (by simp; omega), heap_old _ _ _ (by simp)]; exact heap_new _ _
  have g1 : W.heap[w.heap.size + 1]? = some (.cells #[.int .i64 kd, .int .i64 pa, .int .i64 pb, .int .i64 pn] 142 (0, 0)) := by
    rw [hW, heap_old _ _ _ (by simp)]; exact heap_new2 _ _ _
  have g2 : W.heap[w.heap.size + 1 + 1]? = some (.cells #[.slice none 0 0, .slice none 0 0, .int .i64 0, .int .i64 0] 32 (0, 0)) := by
    rw [hW]
    have := heap_new ((w.alloc (.cells #[.slice ar s.reads.length cr, .slice ap s.puts.length cp, .int .i64 v, .int .i64 0] 32)).alloc (.cells #[.int .i64 kd, .int .i64 pa, .int .i64 pb, .int .i64 pn] 142)) (.cells #[.slice none 0 0, .slice none 0 0, .int .i64 0, .int .i64 0] 32)
    rw [size_new, size_new] at this
    exact this
  have MW : Hid (StepMem w.heap.size W (.slice ar s.reads.length cr) (.slice ap s.puts.length cp) v 0) :=
    ⟨(cell_heap g0 0).trans rfl, (cell_heap g0 1).trans rfl, (cell_heap g0 2).trans rfl, (cell_heap g0 3).trans rfl, fun o => frozen_heap g0 o, (cell_heap g2 0).trans rfl, (cell_heap g2 1).trans rfl, (cell_heap g2 2).trans rfl, (cell_heap g2 3).trans rfl, fun o => frozen_heap g2 o, by have := HSW.out; omega⟩
  have i0 : W.cell? ⟨w.heap.size + 1, 0, none⟩ = some (.int .i64 kd) := (cell_heap g1 0).trans rfl
  have i1 : W.cell? ⟨w.heap.size + 1, 1, none⟩ = some (.int .i64 pa) := (cell_heap g1 1).trans rfl
  have i2 : W.cell? ⟨w.heap.size + 1, 2, none⟩ = some (.int .i64 pb) := (cell_heap g1 2).trans rfl
  have i3 : W.cell? ⟨w.heap.size + 1, 3, none⟩ = some (.int .i64 pn) := (cell_heap g1 3).trans rfl
  have GI : Hid (W.heap[w.heap.size + 1]? = some (.cells #[.int .i64 kd, .int .i64 pa, .int .i64 pb, .int .i64 pn] 142 (0, 0))) := g1
  have HW : Hid (W = _) := hW
  clear hW g0 g1 g2
  have hNW : w.heap.size + 1 + 1 < W.heap.size := by have := HSW.out; omega
  have HHW : Hid (Held B rg W rv pv s) := HH.out.turned (Turned.ofBelow (L := []) BW.out) (by simp) (by simp) (by simp)
  have lR : Hid (∀ g, rv.ownBlock = some g → B ≤ g ∧ g < w.heap.size) := fun g hg => World.ownsRow.lt HH.out.reads g hg
  have lP : Hid (∀ g, pv.ownBlock = some g → B ≤ g ∧ g < w.heap.size) := fun g hg => World.ownsRow.lt HH.out.puts g hg
  have KW : Hid (Kp B rg w W) := (Turned.ofBelow (L := []) BW.out).kp hB (by simp)
  -- from where the run's own cells and what it will say alone turn
  have TAIL : Hid (∀ (w1 W' : World) (rv' pv' : Value) (s' : RunSt), Held B rg w1 rv' pv' s' → Kp B rg w w1 → (∀ g, rv'.ownBlock = some g → g ≠ w.heap.size ∧ g ≠ w.heap.size + 1 + 1) → (∀ g, pv'.ownBlock = some g → g ≠ w.heap.size ∧ g ≠ w.heap.size + 1 + 1) → Turned [w.heap.size, w.heap.size + 1 + 1] w1 W' → Held B rg W' rv' pv' s' ∧ Kp B rg w W') := by
    intro w1 W' rv' pv' s' h1 h2 h3 h4 h5
    refine ⟨h1.turned h5 (by simp; omega) (fun g e => by have := h3 g e; simp; omega) (fun g e => by have := h4 g e; simp; omega), h2.trans (h5.kp (Nat.le_trans hB h2.size) (fun x hx => ?_))⟩
    simp at hx
    omega
  have NR : Hid (∀ g, rv.ownBlock = some g → g ≠ w.heap.size ∧ g ≠ w.heap.size + 1 + 1) := fun g e => by have := lR.out g e; omega
  have NP : Hid (∀ g, pv.ownBlock = some g → g ≠ w.heap.size ∧ g ≠ w.heap.size + 1 + 1) := fun g e => by have := lP.out g e; omega
  obtain ⟨c0, c1, c2, c3, fN, y0, y1, y2, y3, fY, _⟩ := MW.out
  rw [HRV.out, HPV.out, HC.out]
  subst h6
  · -- a put
    have ok := HOK.out
    rw [insOk_2] at ok
    simp only [Bool.and_eq_true] at ok
    obtain ⟨na, hna, rfl⟩ := regOk_nat ok.1.1
    obtain ⟨nb, hnb, rfl⟩ := regOk_nat ok.1.2
    clear ok
    have hbi : (nb : Int) < 4 := by omega
    have rgb := HHW.out.regs.2 nb (by rw [HHW.out.four]; exact hnb)
    rw [Nat.zero_add] at rgb
    have ES : Hid (stepR bs s (2, (na : Int), (nb : Int), pn) = { s with puts := putP s.puts na (s.regs.getD nb 0) }) := by show _ = _; simp [stepR]
    generalize s.regs.getD nb 0 = x at rgb ES
    have PT : Hid (∀ u, Turned [] W u → Calls Tryd.prog 92 #[.agg #[.slice ar s.reads.length cr, .slice ap s.puts.length cp, .int .i64 v, .int .i64 0], .int .i64 na, .int .i64 x] u fun e w' => PutPost s.reads s.puts na x B rv pv v 0 u e w') := by
      intro u hu
      have hh := HHW.out.turned hu (by simp) (by simp) (by simp)
      have h := l3Put na x rv pv s.reads s.puts v 0 B u hh.reads hh.puts hh.apart (by have := hu.size; omega) ly
      rw [HRV.out, HPV.out] at h ⊢
      exact h
    go_enter Tryd.func82, Tryd.ntmps82
    go_upto_region 1 with fail
    rw [← HW.out]
    go_upto_region 7 with fail
    refine region_still_tail 8 (by kernel_rfl) (by kernel_rfl) ?_
    simp only [List.take_succ_cons, List.take_zero, List.drop_succ_cons, List.drop_zero]
    iterate 8 still_step
    refine wpStill_nil ?_
    go_wp2_with fail
    refine Calls.mono (PT.out _ (Turned.refl _ _).drew) ?_
    rintro e w2 ⟨pv2, rfl, o1, o2, ap2, gr, hnew⟩
    obtain ⟨a2, cc2, hpv2, _, _, _, _⟩ := o2.open
    have T2 : Turned pv.ownBlock.toList W w2 := Turned.trans (Turned.refl _ _).drew (Turned.ofGrown gr (fun g e => by simp [e]))
    have nmem : ∀ x, w.heap.size ≤ x → x ∉ pv.ownBlock.toList := fun x hx e => by
      rw [Option.mem_toList] at e
      have := lP.out x e
      omega
    have nrg : rg ∉ pv.ownBlock.toList := fun e => by
      rw [Option.mem_toList] at e
      have := lP.out rg e
      omega
    have hs2 : W.heap.size ≤ w2.heap.size := gr.size
    have H2 : Hid (Held B rg w2 rv pv2 { s with puts := putP s.puts na x }) := ⟨HHW.out.regs.turned T2 nrg, HHW.out.four, fun o => by rw [World.frozen?_of_block (w := W) (a := ⟨rg, o, none⟩) (T2.block rg HHW.out.regs.1 nrg)]; exact HHW.out.free o, o1, o2, ap2⟩
    have M2 := MW.out.turned T2 (nmem _ (Nat.le_refl _)) (nmem _ (by omega))
    have K2 : Hid (Kp B rg w w2) := KW.out.trans (T2.kp (by omega) (fun x e => by rw [Option.mem_toList] at e; exact .inl (lP.out x e).1))
    have tX : ∀ o, w2.cell? ⟨w.heap.size + 1, o, none⟩ = W.cell? ⟨w.heap.size + 1, o, none⟩ := fun o => World.cell?_of_block (w := W) (a := ⟨w.heap.size + 1, o, none⟩) (T2.block _ (by show w.heap.size + 1 < _; omega) (nmem (w.heap.size + 1) (by omega)))
    have j0 : w2.cell? ⟨w.heap.size + 1, 0, none⟩ = some (.int .i64 2) := (tX 0).trans i0
    have NP2 : Hid (∀ g, pv2.ownBlock = some g → g ≠ w.heap.size ∧ g ≠ w.heap.size + 1 + 1) := fun g e => by
      have h2 := World.ownsRow.lt o2 g e
      rcases hnew g e with h | h
      · have := lP.out g h; omega
      · have : W.heap.size ≤ g := h; omega
    have HPV2 : Hid (pv2 = .slice a2 (putP s.puts na x).length cc2) := hpv2
    obtain ⟨d0, d1, d2, d3, fM, e0, e1, e2, e3, fZ, _⟩ := M2
    rw [hpv2, HRV.out]
    clear o1 o2 ap2 gr hnew hpv2 T2 nmem c0 c1 c2 c3 fN y0 y1 y2 y3 fY tX i0 i1 i2 i3 rgb
    go_wp2
    refine bodyPost_ret (v := .agg #[.slice ar s.reads.length cr, .slice a2 (putP s.puts na x).length cc2, .int .i64 v, .int .i64 0]) (by simp [results, Tryd.results82, go_sem, e0, e1, e2, e3]) rfl ⟨rv, pv2, by rw [HRV.out, HPV2.out, ES.out, HC.out], ?_⟩
    rw [ES.out]
    refine TAIL.out w2 _ rv pv2 _ H2.out K2.out NR.out NP2.out ?_
    iterate 8 refine Turned.set ?_ (by simp) _
    exact Turned.refl _ _
end Go.Proofs.YtokbakphfodabaaDoor.Own

namespace Go.Proofs.YtokbakphfodabaaDoor.Own
open Go.RowKit
set_option linter.unusedVariables false

def loadsQ (p : Q4) (b : Int) : Bool := p.1 == 1 && p.2.2.1 == b
def putsQ (p : Q4) (b : Int) : Bool := p.1 == 2 && p.2.1 == b
/-- Of the first k boxes those that are met, ascending. -/
def boxesTo (f : Q4 → Int → Bool) (xs : List Q4) : Nat → List Int
  | 0 => []
  | k + 1 => boxesTo f xs k ++ (if xs.any (fun p => f p (k : Int)) then [(k : Int)] else [])

theorem boxesTo_len (f : Q4 → Int → Bool) (xs : List Q4) (k : Nat) : (boxesTo f xs k).length ≤ k := by
  induction k with
  | zero => simp [boxesTo]
  | succ k ih => simp only [boxesTo, List.length_append]; split <;> simp <;> omega

theorem any_take_succ {α : Type} {p : α → Bool} {xs : List α} {k : Nat} (d : α) (h : k < xs.length) : (xs.take (k + 1)).any p = ((xs.take k).any p || p (xs.getD k d)) := by
  rw [List.take_succ_eq_append_getElem h, List.any_append]
  simp only [List.any_cons, List.any_nil, Bool.or_false, List.getD_eq_getElem?_getD, List.getElem?_eq_getElem h, Option.getD_some]

theorem any_true {α : Type} {p : α → Bool} {xs : List α} {k : Nat} (d : α) (h : k < xs.length) (hp : p (xs.getD k d) = true) : xs.any p = true := by
  rw [List.any_eq_true]
  exact ⟨xs.getD k d, by simp [List.getD, h], hp⟩

/-- Rows that lie below n₀. -/
def Sl4b (n₀ : Nat) (w : World) (a : Option Addr) (xs : List Q4) : Prop := xs = [] ∨ ∃ b off, a = some ⟨b, off, none⟩ ∧ b < n₀ ∧ At4 w b off xs
theorem Sl4b.below {n₀ : Nat} {w w' : World} {a : Option Addr} {xs : List Q4} (h : Sl4b n₀ w a xs) (hb : Below n₀ w w') : Sl4b n₀ w' a xs := by
  rcases h with h | ⟨b, off, rfl, hlt, h⟩
  · exact .inl h
  · exact .inr ⟨b, off, rfl, hlt, h.belowAt hb hlt⟩
theorem Sl4b.sl {n₀ : Nat} {w : World} {a : Option Addr} {xs : List Q4} (h : Sl4b n₀ w a xs) : Sl4 w a xs := by
  rcases h with h | ⟨b, off, rfl, hlt, h⟩
  · exact .inl h
  · exact .inr ⟨b, off, rfl, h⟩
theorem Sl4.at {w : World} {a : Option Addr} {xs : List Q4} (h : Sl4 w a xs) : Sl4b w.heap.size w a xs := by
  rcases h with h | ⟨b, off, rfl, h⟩
  · exact .inl h
  · exact .inr ⟨b, off, rfl, h.1, h⟩
theorem grownBy_of_below {w w' : World} (h : Below w.heap.size w w') : w.grownBy w' none := ⟨h.os, h.tape, h.output, h.size, fun k hk _ => h.block k hk⟩
theorem ownsRow_lower {w : World} {B B' e s n : Nat} {v : Value} {xs : List Value} (h : w.ownsRow B e s v n xs) (hB : B' ≤ B) : w.ownsRow B' e s v n xs := by
  obtain ⟨h1, h2⟩ := h
  refine ⟨h1, ?_⟩
  rcases h2 with h2 | ⟨g, cap, cur, hv, hg, r⟩
  · exact .inl h2
  · exact .inr ⟨g, cap, cur, hv, Nat.le_trans hB hg, r⟩
end Go.Proofs.YtokbakphfodabaaDoor.Own
