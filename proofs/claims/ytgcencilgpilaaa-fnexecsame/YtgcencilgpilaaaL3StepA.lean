/-
  Own text: what spec.l3Step does at an instruction that neither looks nor puts.
-/
import Derived.Test.YtgcencilgpilaaaRunHeld
import Derived.Test.YtgcencilgpilaaaExecOkI
import Derived.Test.YtgcencilgpilaaaExecDoS2
import Derived.Deep.RegionWith
namespace Go.Proofs.Ytgcencilgpilaaa.Own
open Go.RowKit
set_option linter.unusedVariables false
set_option linter.unusedSimpArgs false

/-- What a step leaves. -/
def StepPost (bs : List P2) (s : RunSt) (p : Q4) (B rg : Nat) (v : Int) (w : World) (e : Ending) (w' : World) : Prop :=
  ∃ rv' pv', e = .returned (.agg #[rv', pv', .int .i64 v, .int .i64 (stepR bs s p).code]) ∧ Held B rg w' rv' pv' (stepR bs s p) ∧ Kp B rg w w'

/-- The cells that l3Step lays: the run, the instruction, what it will say. -/
structure StepMem (N : Nat) (W : World) (rv pv : Value) (v c : Int) : Prop where
  c0 : W.cell? ⟨N, 0, none⟩ = some rv
  c1 : W.cell? ⟨N, 1, none⟩ = some pv
  c2 : W.cell? ⟨N, 2, none⟩ = some (.int .i64 v)
  c3 : W.cell? ⟨N, 3, none⟩ = some (.int .i64 c)
  f : ∀ o, W.frozen? ⟨N, o, none⟩ = false
  y0 : W.cell? ⟨N + 1 + 1, 0, none⟩ = some (.slice none 0 0)
  y1 : W.cell? ⟨N + 1 + 1, 1, none⟩ = some (.slice none 0 0)
  y2 : W.cell? ⟨N + 1 + 1, 2, none⟩ = some (.int .i64 0)
  y3 : W.cell? ⟨N + 1 + 1, 3, none⟩ = some (.int .i64 0)
  g : ∀ o, W.frozen? ⟨N + 1 + 1, o, none⟩ = false
  lt : N + 1 + 1 < W.heap.size
theorem StepMem.turned {L : List Nat} {N : Nat} {W W' : World} {rv pv : Value} {v c : Int} (h : StepMem N W rv pv v c) (ht : Turned L W W') (h0 : N ∉ L) (h2 : N + 1 + 1 ∉ L) : StepMem N W' rv pv v c := by
  have hl := h.lt
  have e : ∀ o, W'.cell? ⟨N, o, none⟩ = W.cell? ⟨N, o, none⟩ := fun o => World.cell?_of_block (w := W) (a := ⟨N, o, none⟩) (ht.block N (by omega) h0)
  have e2 : ∀ o, W'.cell? ⟨N + 1 + 1, o, none⟩ = W.cell? ⟨N + 1 + 1, o, none⟩ := fun o => World.cell?_of_block (w := W) (a := ⟨N + 1 + 1, o, none⟩) (ht.block (N + 1 + 1) (by omega) h2)
  have i : ∀ o, W'.frozen? ⟨N, o, none⟩ = W.frozen? ⟨N, o, none⟩ := fun o => World.frozen?_of_block (w := W) (a := ⟨N, o, none⟩) (ht.block N (by omega) h0)
  have i2 : ∀ o, W'.frozen? ⟨N + 1 + 1, o, none⟩ = W.frozen? ⟨N + 1 + 1, o, none⟩ := fun o => World.frozen?_of_block (w := W) (a := ⟨N + 1 + 1, o, none⟩) (ht.block (N + 1 + 1) (by omega) h2)
  exact ⟨by rw [e]; exact h.c0, by rw [e]; exact h.c1, by rw [e]; exact h.c2, by rw [e]; exact h.c3, fun o => by rw [i]; exact h.f o, by rw [e2]; exact h.y0, by rw [e2]; exact h.y1, by rw [e2]; exact h.y2, by rw [e2]; exact h.y3, fun o => by rw [i2]; exact h.g o, Nat.lt_of_lt_of_le h.lt ht.size⟩

set_option maxRecDepth 100000 in
set_option maxHeartbeats 4000000 in
theorem l3StepA (la : Option Addr) (lc : Nat) (bs : List P2) (rg rc : Nat) (s : RunSt) (rv pv : Value) (p : Q4) (v : Int) (B : Nat) (w : World)
    (hb : Sl w la bs) (l4 : bs.length = 4) (hla : ∀ x, la = some x → x.block < B) (hh : Held B rg w rv pv s) (hrg : rg < B) (hB : B ≤ w.heap.size) (lx : s.reads.length ≤ 1000) (ly : s.puts.length ≤ 1000)
    (hp : insOk p = true) (h6 : p.1 = 3 ∨ p.1 = 7 ∨ p.1 = 4 ∨ p.1 = 5) (hc : s.code = 0) (hn : ∀ i, i < 4 → numOk (s.regs.getD i 0) = true) :
    Calls Try.prog 142 #[.slice la bs.length lc, .agg #[rv, pv, .int .i64 v, .int .i64 s.code], .slice (some ⟨rg, 0, none⟩) 4 rc, .agg #[.int .i64 p.1, .int .i64 p.2.1, .int .i64 p.2.2.1, .int .i64 p.2.2.2]] w fun e w' => StepPost bs s p B rg v w e w' := by
  obtain ⟨kd, pa, pb, pn⟩ := p
  dsimp only at h6 ⊢
  obtain ⟨ar, cr, hrv, slr, hcr, hmr, hbr⟩ := hh.reads.open
  obtain ⟨ap, cp, hpv, slp, hcp, hmp, hbp⟩ := hh.puts.open
  have HH : Hid (Held B rg w rv pv s) := hh
  have HRV : Hid (rv = .slice ar s.reads.length cr) := hrv
  have HPV : Hid (pv = .slice ap s.puts.length cp) := hpv
  have SB : Hid (Sl w la bs) := hb
  have HLA : Hid (∀ x, la = some x → x.block < B) := hla
  have HN : Hid (∀ i, i < 4 → numOk (s.regs.getD i 0) = true) := hn
  have HC : Hid (s.code = 0) := hc
  have HOK : Hid (insOk (kd, pa, pb, pn) = true) := hp
  clear hh slr slp hb hbr hbp hcr hcp hmr hmp hla hn hp
  obtain ⟨W, hW⟩ : ∃ W, W = ((w.alloc (.cells #[.slice ar s.reads.length cr, .slice ap s.puts.length cp, .int .i64 v, .int .i64 0] 27)).alloc (.cells #[.int .i64 kd, .int .i64 pa, .int .i64 pb, .int .i64 pn] 156)).alloc (.cells #[.slice none 0 0, .slice none 0 0, .int .i64 0, .int .i64 0] 27) := ⟨_, rfl⟩
  have BW : Hid (Below w.heap.size w W) := by show Below _ _ _; rw [hW]; exact (((Below.refl _ _).alloc (Nat.le_refl _) _).alloc (by simp) _).alloc (by simp; omega) _
  have HSW : Hid (W.heap.size = w.heap.size + 3) := by show _ = _; rw [hW]; simp
  have g0 : W.heap[w.heap.size]? = some (.cells #[.slice ar s.reads.length cr, .slice ap s.puts.length cp, .int .i64 v, .int .i64 0] 27 (0, 0)) := by
    rw [hW, heap_old _ _ _ (by simp; omega), heap_old _ _ _ (by simp)]; exact heap_new _ _
  have g1 : W.heap[w.heap.size + 1]? = some (.cells #[.int .i64 kd, .int .i64 pa, .int .i64 pb, .int .i64 pn] 156 (0, 0)) := by
    rw [hW, heap_old _ _ _ (by simp)]; exact heap_new2 _ _ _
  have g2 : W.heap[w.heap.size + 1 + 1]? = some (.cells #[.slice none 0 0, .slice none 0 0, .int .i64 0, .int .i64 0] 27 (0, 0)) := by
    rw [hW]
    have := heap_new ((w.alloc (.cells #[.slice ar s.reads.length cr, .slice ap s.puts.length cp, .int .i64 v, .int .i64 0] 27)).alloc (.cells #[.int .i64 kd, .int .i64 pa, .int .i64 pb, .int .i64 pn] 156)) (.cells #[.slice none 0 0, .slice none 0 0, .int .i64 0, .int .i64 0] 27)
    rw [size_new, size_new] at this
    exact this
  have MW : Hid (StepMem w.heap.size W (.slice ar s.reads.length cr) (.slice ap s.puts.length cp) v 0) :=
    ⟨(cell_heap g0 0).trans rfl, (cell_heap g0 1).trans rfl, (cell_heap g0 2).trans rfl, (cell_heap g0 3).trans rfl, fun o => frozen_heap g0 o, (cell_heap g2 0).trans rfl, (cell_heap g2 1).trans rfl, (cell_heap g2 2).trans rfl, (cell_heap g2 3).trans rfl, fun o => frozen_heap g2 o, by have := HSW.out; omega⟩
  have i0 : W.cell? ⟨w.heap.size + 1, 0, none⟩ = some (.int .i64 kd) := (cell_heap g1 0).trans rfl
  have i1 : W.cell? ⟨w.heap.size + 1, 1, none⟩ = some (.int .i64 pa) := (cell_heap g1 1).trans rfl
  have i2 : W.cell? ⟨w.heap.size + 1, 2, none⟩ = some (.int .i64 pb) := (cell_heap g1 2).trans rfl
  have i3 : W.cell? ⟨w.heap.size + 1, 3, none⟩ = some (.int .i64 pn) := (cell_heap g1 3).trans rfl
  have GI : Hid (W.heap[w.heap.size + 1]? = some (.cells #[.int .i64 kd, .int .i64 pa, .int .i64 pb, .int .i64 pn] 156 (0, 0))) := g1
  have HW : Hid (W = _) := hW
  clear hW g0 g1 g2
  have hNW : w.heap.size + 1 + 1 < W.heap.size := by have := HSW.out; omega
  have HHW : Hid (Held B rg W rv pv s) := HH.out.turned (Turned.ofBelow (L := []) BW.out) (by simp) (by simp) (by simp)
  have lR : Hid (∀ g, rv.ownBlock = some g → B ≤ g ∧ g < w.heap.size) := fun g hg => World.ownsRow.lt HH.out.reads g hg
  have lP : Hid (∀ g, pv.ownBlock = some g → B ≤ g ∧ g < w.heap.size) := fun g hg => World.ownsRow.lt HH.out.puts g hg
  have KW : Hid (Kp B rg w W) := (Turned.ofBelow (L := []) BW.out).kp hB (by simp)
  -- from where the run's own cells and what it will say alone turn
  have TAIL : Hid (∀ (w1 W' : World) (rv' pv' : Value) (s' : RunSt), Held B rg w1 rv' pv' s' → Kp B rg w w1 → (∀ g, rv'.ownBlock = some g → g ≠ w.heap.size ∧ g ≠ w.heap.size + 1 + 1) → (∀ g, pv'.ownBlock = some g → g ≠ w.heap.size ∧ g ≠ w.heap.size + 1 + 1) → Turned [w.heap.size, w.heap.size + 1 + 1] w1 W' → Held B rg W' rv' pv' s' ∧ Kp B rg w W') := by
    intro w1 W' rv' pv' s' h1 h2 h3 h4 h5
    refine ⟨h1.turned h5 (by simp; omega) (fun g e => by have := h3 g e; simp; omega) (fun g e => by have := h4 g e; simp; omega), h2.trans (h5.kp (Nat.le_trans hB h2.size) (fun x hx => ?_))⟩
    simp at hx
    omega
  have NR : Hid (∀ g, rv.ownBlock = some g → g ≠ w.heap.size ∧ g ≠ w.heap.size + 1 + 1) := fun g e => by have := lR.out g e; omega
  have NP : Hid (∀ g, pv.ownBlock = some g → g ≠ w.heap.size ∧ g ≠ w.heap.size + 1 + 1) := fun g e => by have := lP.out g e; omega
  obtain ⟨c0, c1, c2, c3, fN, y0, y1, y2, y3, fY, _⟩ := MW.out
  rw [HRV.out, HPV.out, HC.out]
  rcases h6 with rfl | rfl | rfl | rfl
  · -- a number
    have ok := HOK.out
    rw [insOk_3] at ok
    simp only [Bool.and_eq_true] at ok
    obtain ⟨na, hna, rfl⟩ := regOk_nat ok.1.1
    clear ok
    have rga := HHW.out.regs.2 na (by rw [HHW.out.four]; exact hna)
    rw [Nat.zero_add] at rga
    have fa := HHW.out.free na
    have hai : (na : Int) < 4 := by omega
    have rn : ¬ rg = w.heap.size := by omega
    have rn1 : ¬ rg = w.heap.size + 1 := by omega
    have ES : Hid (stepR bs s (3, (na : Int), pb, pn) = setReg s na pn) := by show _ = _; simp [stepR]
    go_enter Try.func142, Try.ntmps142
    go_upto_region 1 with fail
    rw [← HW.out]
    go_wp2_with fail
    refine (l1Num pn _).mono ?_
    rintro e w1 ⟨rfl, hw⟩
    have T1 : Turned [rg] W w1 := by rw [hw]; exact (Turned.refl _ _).set (by simp) _
    have H1 : Hid (Held B rg w1 rv pv (setReg s na pn)) := by show Held _ _ _ _ _ _; rw [hw]; exact HHW.out.setR hrg na hna pn
    have K1 : Hid (Kp B rg w w1) := KW.out.trans (T1.kp (by omega) (by simp))
    obtain ⟨c0', c1', c2', c3', fN', y0', y1', y2', y3', fY', _⟩ := MW.out.turned T1 (by simp; omega) (by simp; omega)
    clear hw T1 c0 c1 c2 c3 fN y0 y1 y2 y3 fY
    cases hk : numOk pn with
    | true =>
      have EC : Hid ((setReg s na pn).code = 0) := by show _ = _; simp [setReg, hk, HC.out]
      go_wp2
      refine bodyPost_ret (v := .agg #[.slice ar s.reads.length cr, .slice ap s.puts.length cp, .int .i64 v, .int .i64 0]) (by simp [results, Try.results142, go_sem, y0', y1', y2', y3']) rfl ⟨rv, pv, by rw [HRV.out, HPV.out, ES.out, EC.out], ?_⟩
      rw [ES.out]
      refine TAIL.out w1 _ rv pv _ H1.out K1.out NR.out NP.out ?_
      repeat (first | exact Turned.refl _ _ | refine Turned.set ?_ (by simp) _)
    | false =>
      have EC : Hid ((setReg s na pn).code = 2) := by show _ = _; simp [setReg, hk]
      go_wp2
      refine bodyPost_ret (v := .agg #[.slice ar s.reads.length cr, .slice ap s.puts.length cp, .int .i64 v, .int .i64 2]) (by simp [results, Try.results142, go_sem, y0', y1', y2', y3']) rfl ⟨rv, pv, by rw [HRV.out, HPV.out, ES.out, EC.out], ?_⟩
      rw [ES.out]
      refine TAIL.out w1 _ rv pv _ H1.out K1.out NR.out NP.out ?_
      repeat (first | exact Turned.refl _ _ | refine Turned.set ?_ (by simp) _)
  · -- the end
    have ok := HOK.out
    rw [insOk_7] at ok
    simp only [Bool.and_eq_true, beq_iff_eq] at ok
    obtain ⟨⟨rfl, rfl⟩, rfl⟩ := ok
    have rga := HHW.out.regs.2 0 (by rw [HHW.out.four]; omega)
    rw [Nat.zero_add] at rga
    have EN : Hid (numOk (s.regs.getD 0 0) = true) := HN.out 0 (by omega)
    generalize s.regs.getD 0 0 = x at rga EN
    have rn : ¬ rg = w.heap.size := by omega
    have rn' : ¬ w.heap.size = rg := by omega
    have ES : Hid (stepR bs s (7, 0, 0, 0) = { s with code := 1 }) := by show _ = _; simp [stepR]
    go_enter Try.func142, Try.ntmps142
    go_upto_region 1 with fail
    rw [← HW.out]
    go_wp2_with fail
    refine (l1Num x _).mono ?_
    rintro e w1 ⟨rfl, hw⟩
    rw [hw, EN.out]
    clear hw
    go_wp2
    refine bodyPost_ret (v := .agg #[.slice ar s.reads.length cr, .slice ap s.puts.length cp, .int .i64 v, .int .i64 1]) (by simp [results, Try.results142, go_sem, y0, y1, y2, y3]) rfl ⟨rv, pv, by rw [HRV.out, HPV.out, ES.out], ?_⟩
    rw [ES.out]
    refine TAIL.out W _ rv pv _ (HHW.out.code 1) KW.out NR.out NP.out ?_
    repeat (first | exact Turned.refl _ _ | refine Turned.set ?_ (by simp) _)
  · -- a sum
    have ok := HOK.out
    rw [insOk_4] at ok
    simp only [Bool.and_eq_true] at ok
    obtain ⟨na, hna, rfl⟩ := regOk_nat ok.1.1
    obtain ⟨nb, hnb, rfl⟩ := regOk_nat ok.1.2
    clear ok
    have hai : (na : Int) < 4 := by omega
    have hbi : (nb : Int) < 4 := by omega
    have rga := HHW.out.regs.2 na (by rw [HHW.out.four]; exact hna)
    have rgb := HHW.out.regs.2 nb (by rw [HHW.out.four]; exact hnb)
    rw [Nat.zero_add] at rga rgb
    have fa := HHW.out.free na
    have ba := HN.out na hna
    have bb := HN.out nb hnb
    have ES : Hid (stepR bs s (4, (na : Int), (nb : Int), pn) = setReg s na (s.regs.getD na 0 + s.regs.getD nb 0)) := by show _ = _; simp [stepR]
    generalize s.regs.getD na 0 = x at rga ba ES
    generalize s.regs.getD nb 0 = y at rgb bb ES
    simp only [numOk, Bool.and_eq_true, decide_eq_true_eq] at ba bb
    obtain ⟨ba0, ba1⟩ := ba
    obtain ⟨bb0, bb1⟩ := bb
    have wr : IntKind.i64.wrap (x + y) = x + y := by rw [IntKind.wrap_i64]; omega
    have rn : ¬ rg = w.heap.size := by omega
    have rn1 : ¬ rg = w.heap.size + 1 := by omega
    have rn' : ¬ w.heap.size + 1 = rg := by omega
    go_enter Try.func142, Try.ntmps142
    go_upto_region 1 with fail
    rw [← HW.out]
    go_upto_region 11 with fail
    refine region_still_tail 15 (by kernel_rfl) (by kernel_rfl) ?_
    simp only [List.take_succ_cons, List.take_zero, List.drop_succ_cons, List.drop_zero]
    iterate 15 still_step
    refine wpStill_nil ?_
    go_wp2_with fail
    refine (l1Num (x + y) _).mono ?_
    rintro e w1 ⟨rfl, hw⟩
    have T1 : Turned [rg] W w1 := by rw [hw]; exact (Turned.refl _ _).drew.set (by simp) _
    have H1 : Hid (Held B rg w1 rv pv (setReg s na (x + y))) := by show Held _ _ _ _ _ _; rw [hw]; exact (HHW.out.turned (L := []) (Turned.refl _ _).drew (by simp) (by simp) (by simp)).setR hrg na hna _
    have K1 : Hid (Kp B rg w w1) := KW.out.trans (T1.kp (by omega) (by simp))
    obtain ⟨c0', c1', c2', c3', fN', y0', y1', y2', y3', fY', _⟩ := MW.out.turned T1 (by simp; omega) (by simp; omega)
    clear hw T1 c0 c1 c2 c3 fN y0 y1 y2 y3 fY
    cases hk : numOk (x + y) with
    | true =>
      have EC : Hid ((setReg s na (x + y)).code = 0) := by show _ = _; simp [setReg, hk, HC.out]
      go_wp2
      refine bodyPost_ret (v := .agg #[.slice ar s.reads.length cr, .slice ap s.puts.length cp, .int .i64 v, .int .i64 0]) (by simp [results, Try.results142, go_sem, y0', y1', y2', y3']) rfl ⟨rv, pv, by rw [HRV.out, HPV.out, ES.out, EC.out], ?_⟩
      rw [ES.out]
      refine TAIL.out w1 _ rv pv _ H1.out K1.out NR.out NP.out ?_
      repeat (first | exact Turned.refl _ _ | refine Turned.set ?_ (by simp) _)
    | false =>
      have EC : Hid ((setReg s na (x + y)).code = 2) := by show _ = _; simp [setReg, hk]
      go_wp2
      refine bodyPost_ret (v := .agg #[.slice ar s.reads.length cr, .slice ap s.puts.length cp, .int .i64 v, .int .i64 2]) (by simp [results, Try.results142, go_sem, y0', y1', y2', y3']) rfl ⟨rv, pv, by rw [HRV.out, HPV.out, ES.out, EC.out], ?_⟩
      rw [ES.out]
      refine TAIL.out w1 _ rv pv _ H1.out K1.out NR.out NP.out ?_
      repeat (first | exact Turned.refl _ _ | refine Turned.set ?_ (by simp) _)
  · -- a difference
    have ok := HOK.out
    rw [insOk_5] at ok
    simp only [Bool.and_eq_true] at ok
    obtain ⟨na, hna, rfl⟩ := regOk_nat ok.1.1
    obtain ⟨nb, hnb, rfl⟩ := regOk_nat ok.1.2
    clear ok
    have hai : (na : Int) < 4 := by omega
    have hbi : (nb : Int) < 4 := by omega
    have rga := HHW.out.regs.2 na (by rw [HHW.out.four]; exact hna)
    have rgb := HHW.out.regs.2 nb (by rw [HHW.out.four]; exact hnb)
    rw [Nat.zero_add] at rga rgb
    have fa := HHW.out.free na
    have ba := HN.out na hna
    have bb := HN.out nb hnb
    have ES : Hid (stepR bs s (5, (na : Int), (nb : Int), pn) = setReg s na (s.regs.getD na 0 - s.regs.getD nb 0)) := by show _ = _; simp [stepR]
    generalize s.regs.getD na 0 = x at rga ba ES
    generalize s.regs.getD nb 0 = y at rgb bb ES
    simp only [numOk, Bool.and_eq_true, decide_eq_true_eq] at ba bb
    obtain ⟨ba0, ba1⟩ := ba
    obtain ⟨bb0, bb1⟩ := bb
    have wr : IntKind.i64.wrap (x - y) = x - y := by rw [IntKind.wrap_i64]; omega
    have rn : ¬ rg = w.heap.size := by omega
    have rn1 : ¬ rg = w.heap.size + 1 := by omega
    have rn' : ¬ w.heap.size + 1 = rg := by omega
    go_enter Try.func142, Try.ntmps142
    go_upto_region 1 with fail
    rw [← HW.out]
    go_upto_region 13 with fail
    refine region_still_tail 15 (by kernel_rfl) (by kernel_rfl) ?_
    simp only [List.take_succ_cons, List.take_zero, List.drop_succ_cons, List.drop_zero]
    iterate 15 still_step
    refine wpStill_nil ?_
    go_wp2_with fail
    refine (l1Num (x - y) _).mono ?_
    rintro e w1 ⟨rfl, hw⟩
    have T1 : Turned [rg] W w1 := by rw [hw]; exact (Turned.refl _ _).drew.set (by simp) _
    have H1 : Hid (Held B rg w1 rv pv (setReg s na (x - y))) := by show Held _ _ _ _ _ _; rw [hw]; exact (HHW.out.turned (L := []) (Turned.refl _ _).drew (by simp) (by simp) (by simp)).setR hrg na hna _
    have K1 : Hid (Kp B rg w w1) := KW.out.trans (T1.kp (by omega) (by simp))
    obtain ⟨c0', c1', c2', c3', fN', y0', y1', y2', y3', fY', _⟩ := MW.out.turned T1 (by simp; omega) (by simp; omega)
    clear hw T1 c0 c1 c2 c3 fN y0 y1 y2 y3 fY
    cases hk : numOk (x - y) with
    | true =>
      have EC : Hid ((setReg s na (x - y)).code = 0) := by show _ = _; simp [setReg, hk, HC.out]
      go_wp2
      refine bodyPost_ret (v := .agg #[.slice ar s.reads.length cr, .slice ap s.puts.length cp, .int .i64 v, .int .i64 0]) (by simp [results, Try.results142, go_sem, y0', y1', y2', y3']) rfl ⟨rv, pv, by rw [HRV.out, HPV.out, ES.out, EC.out], ?_⟩
      rw [ES.out]
      refine TAIL.out w1 _ rv pv _ H1.out K1.out NR.out NP.out ?_
      repeat (first | exact Turned.refl _ _ | refine Turned.set ?_ (by simp) _)
    | false =>
      have EC : Hid ((setReg s na (x - y)).code = 2) := by show _ = _; simp [setReg, hk]
      go_wp2
      refine bodyPost_ret (v := .agg #[.slice ar s.reads.length cr, .slice ap s.puts.length cp, .int .i64 v, .int .i64 2]) (by simp [results, Try.results142, go_sem, y0', y1', y2', y3']) rfl ⟨rv, pv, by rw [HRV.out, HPV.out, ES.out, EC.out], ?_⟩
      rw [ES.out]
      refine TAIL.out w1 _ rv pv _ H1.out K1.out NR.out NP.out ?_
      repeat (first | exact Turned.refl _ _ | refine Turned.set ?_ (by simp) _)
end Go.Proofs.Ytgcencilgpilaaa.Own
