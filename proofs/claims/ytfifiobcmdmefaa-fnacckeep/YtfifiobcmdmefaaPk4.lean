/-
  Own texts, bundled: L3StepL, L3StepP, Touch, RunFacts, RunFacts2, ProgOkS, SpecRun.
-/
import Derived.Test.YtfifiobcmdmefaaPk3
import Derived.Test.YtfifiobcmdmefaaPk1
import Derived.BigQuiet
import Derived.Deep.QuietTactic
import Derived.Test.YtfifiobcmdmefaaPk2
namespace Go.Proofs.Ytfifiobcmdmefaa.Own
open Go.RowKit
set_option linter.unusedVariables false
set_option linter.unusedSimpArgs false

/-- Four cells of the run laid anew. -/
theorem StepMem.put4 {N : Nat} {W : World} {rv pv rv' pv' : Value} {v c v' c' : Int} (h : StepMem N W rv pv v c) :
    StepMem N ((((W.setCell ⟨N, 0, none⟩ rv').setCell ⟨N, 1, none⟩ pv').setCell ⟨N, 2, none⟩ (.int .i64 v')).setCell ⟨N, 3, none⟩ (.int .i64 c')) rv' pv' v' c' := by
  have ne : ∀ o (u : World) (x : Value) o', (u.setCell ⟨N, o, none⟩ x).cell? ⟨N + 1 + 1, o', none⟩ = u.cell? ⟨N + 1 + 1, o', none⟩ := fun o u x o' => World.cell?_setCell_other _ _ _ _ (by intro e; injection e with e1 _ _; omega)
  refine ⟨?_, ?_, ?_, ?_, fun o => by simpa using h.f o, ?_, ?_, ?_, ?_, fun o => by simpa using h.g o, by simpa [World.setCell] using h.lt⟩
  · rw [setCell_cell_other _ _ _ _ _ (by omega), setCell_cell_other _ _ _ _ _ (by omega), setCell_cell_other _ _ _ _ _ (by omega)]
    exact setCell_cell_same _ _ _ _ _ h.c0
  · rw [setCell_cell_other _ _ _ _ _ (by omega), setCell_cell_other _ _ _ _ _ (by omega)]
    exact setCell_cell_same _ _ _ _ _ (by rw [setCell_cell_other _ _ _ _ _ (by omega)]; exact h.c1)
  · rw [setCell_cell_other _ _ _ _ _ (by omega)]
    exact setCell_cell_same _ _ _ _ _ (by rw [setCell_cell_other _ _ _ _ _ (by omega), setCell_cell_other _ _ _ _ _ (by omega)]; exact h.c2)
  · exact setCell_cell_same _ _ _ _ _ (by rw [setCell_cell_other _ _ _ _ _ (by omega), setCell_cell_other _ _ _ _ _ (by omega), setCell_cell_other _ _ _ _ _ (by omega)]; exact h.c3)
  · rw [ne, ne, ne, ne]; exact h.y0
  · rw [ne, ne, ne, ne]; exact h.y1
  · rw [ne, ne, ne, ne]; exact h.y2
  · rw [ne, ne, ne, ne]; exact h.y3

set_option maxRecDepth 100000 in
set_option maxHeartbeats 4000000 in
theorem l3StepL (la : Option Addr) (lc : Nat) (bs : List P2) (rg rc : Nat) (s : RunSt) (rv pv : Value) (p : Q4) (v : Int) (B : Nat) (w : World)
    (hb : Sl w la bs) (l4 : bs.length = 4) (hla : ∀ x, la = some x → x.block < B) (hh : Held B rg w rv pv s) (hrg : rg < B) (hB : B ≤ w.heap.size) (lx : s.reads.length ≤ 1000) (ly : s.puts.length ≤ 1000)
    (hp : insOk p = true) (h6 : p.1 = 1) (hc : s.code = 0) (hn : ∀ i, i < 4 → numOk (s.regs.getD i 0) = true) :
    Calls Try.prog 129 #[.slice la bs.length lc, .agg #[rv, pv, .int .i64 v, .int .i64 s.code], .slice (some ⟨rg, 0, none⟩) 4 rc, .agg #[.int .i64 p.1, .int .i64 p.2.1, .int .i64 p.2.2.1, .int .i64 p.2.2.2]] w fun e w' => StepPost bs s p B rg v w e w' := by
  obtain ⟨kd, pa, pb, pn⟩ := p
  dsimp only at h6 ⊢
  obtain ⟨ar, cr, hrv, slr, hcr, hmr, hbr⟩ := hh.reads.open
  obtain ⟨ap, cp, hpv, slp, hcp, hmp, hbp⟩ := hh.puts.open
  have HH : Hid (Held B rg w rv pv s) := hh
  have HRV : Hid (rv = .slice ar s.reads.length cr) := hrv
  have HPV : Hid (pv = .slice ap s.puts.length cp) := hpv
  have SB : Hid (Sl w la bs) := hb
  have HLA : Hid (∀ x, la = some x → x.block < B) := hla
  have HN : Hid (∀ i, i < 4 → numOk (s.regs.getD i 0) = true) := hn
  have HC : Hid (s.code = 0) := hc
  have HOK : Hid (insOk (kd, pa, pb, pn) = true) := hp
  have HL4 : Hid (bs.length = 4) := l4
  clear l4 hh slr slp hb hbr hbp hcr hcp hmr hmp hla hn hp
  obtain ⟨W, hW⟩ : ∃ W, W = ((w.alloc (.cells #[.slice ar s.reads.length cr, .slice ap s.puts.length cp, .int .i64 v, .int .i64 0] 31)).alloc (.cells #[.int .i64 kd, .int .i64 pa, .int .i64 pb, .int .i64 pn] 188)).alloc (.cells #[.slice none 0 0, .slice none 0 0, .int .i64 0, .int .i64 0] 31) := ⟨_, rfl⟩
  have BW : Hid (Below w.heap.size w W) := by show Below _ _ _; rw [hW]; exact (((Below.refl _ _).alloc (Nat.le_refl _) _).alloc (by simp) _).alloc (by simp; omega) _
  have HSW : Hid (W.heap.size = w.heap.size + 3) := by show _ = _; rw [hW]; simp
  have g0 : W.heap[w.heap.size]? = some (.cells #[.slice ar s.reads.length cr, .slice ap s.puts.length cp, .int .i64 v, .int .i64 0] 31 (0, 0)) := by
    rw [hW, heap_old _ _ _ (by simp; omega), heap_old _ _ _ (by simp)]; exact heap_new _ _
  have g1 : W.heap[w.heap.size + 1]? = some (.cells #[.int .i64 kd, .int .i64 pa, .int .i64 pb, .int .i64 pn] 188 (0, 0)) := by
    rw [hW, heap_old _ _ _ (by simp)]; exact heap_new2 _ _ _
  have g2 : W.heap[w.heap.size + 1 + 1]? = some (.cells #[.slice none 0 0, .slice none 0 0, .int .i64 0, .int .i64 0] 31 (0, 0)) := by
    rw [hW]
    have := heap_new ((w.alloc (.cells #[.slice ar s.reads.length cr, .slice ap s.puts.length cp, .int .i64 v, .int .i64 0] 31)).alloc (.cells #[.int .i64 kd, .int .i64 pa, .int .i64 pb, .int .i64 pn] 188)) (.cells #[.slice none 0 0, .slice none 0 0, .int .i64 0, .int .i64 0] 31)
    rw [size_new, size_new] at this
    exact this
  have MW : Hid (StepMem w.heap.size W (.slice ar s.reads.length cr) (.slice ap s.puts.length cp) v 0) :=
    ⟨(cell_heap g0 0).trans rfl, (cell_heap g0 1).trans rfl, (cell_heap g0 2).trans rfl, (cell_heap g0 3).trans rfl, fun o => frozen_heap g0 o, (cell_heap g2 0).trans rfl, (cell_heap g2 1).trans rfl, (cell_heap g2 2).trans rfl, (cell_heap g2 3).trans rfl, fun o => frozen_heap g2 o, by have := HSW.out; omega⟩
  have i0 : W.cell? ⟨w.heap.size + 1, 0, none⟩ = some (.int .i64 kd) := (cell_heap g1 0).trans rfl
  have i1 : W.cell? ⟨w.heap.size + 1, 1, none⟩ = some (.int .i64 pa) := (cell_heap g1 1).trans rfl
  have i2 : W.cell? ⟨w.heap.size + 1, 2, none⟩ = some (.int .i64 pb) := (cell_heap g1 2).trans rfl
  have i3 : W.cell? ⟨w.heap.size + 1, 3, none⟩ = some (.int .i64 pn) := (cell_heap g1 3).trans rfl
  have GI : Hid (W.heap[w.heap.size + 1]? = some (.cells #[.int .i64 kd, .int .i64 pa, .int .i64 pb, .int .i64 pn] 188 (0, 0))) := g1
  have HW : Hid (W = _) := hW
  clear hW g0 g1 g2
  have hNW : w.heap.size + 1 + 1 < W.heap.size := by have := HSW.out; omega
  have HHW : Hid (Held B rg W rv pv s) := HH.out.turned (Turned.ofBelow (L := []) BW.out) (by simp) (by simp) (by simp)
  have lR : Hid (∀ g, rv.ownBlock = some g → B ≤ g ∧ g < w.heap.size) := fun g hg => World.ownsRow.lt HH.out.reads g hg
  have lP : Hid (∀ g, pv.ownBlock = some g → B ≤ g ∧ g < w.heap.size) := fun g hg => World.ownsRow.lt HH.out.puts g hg
  have KW : Hid (Kp B rg w W) := (Turned.ofBelow (L := []) BW.out).kp hB (by simp)
  -- from where the run's own cells and what it will say alone turn
  have TAIL : Hid (∀ (w1 W' : World) (rv' pv' : Value) (s' : RunSt), Held B rg w1 rv' pv' s' → Kp B rg w w1 → (∀ g, rv'.ownBlock = some g → g ≠ w.heap.size ∧ g ≠ w.heap.size + 1 + 1) → (∀ g, pv'.ownBlock = some g → g ≠ w.heap.size ∧ g ≠ w.heap.size + 1 + 1) → Turned [w.heap.size, w.heap.size + 1 + 1] w1 W' → Held B rg W' rv' pv' s' ∧ Kp B rg w W') := by
    intro w1 W' rv' pv' s' h1 h2 h3 h4 h5
    refine ⟨h1.turned h5 (by simp; omega) (fun g e => by have := h3 g e; simp; omega) (fun g e => by have := h4 g e; simp; omega), h2.trans (h5.kp (Nat.le_trans hB h2.size) (fun x hx => ?_))⟩
    simp at hx
    omega
  have NR : Hid (∀ g, rv.ownBlock = some g → g ≠ w.heap.size ∧ g ≠ w.heap.size + 1 + 1) := fun g e => by have := lR.out g e; omega
  have NP : Hid (∀ g, pv.ownBlock = some g → g ≠ w.heap.size ∧ g ≠ w.heap.size + 1 + 1) := fun g e => by have := lP.out g e; omega
  obtain ⟨c0, c1, c2, c3, fN, y0, y1, y2, y3, fY, _⟩ := MW.out
  rw [HRV.out, HPV.out, HC.out]
  subst h6
  · -- a look
    have ok := HOK.out
    rw [insOk_1] at ok
    simp only [Bool.and_eq_true] at ok
    obtain ⟨na, hna, rfl⟩ := regOk_nat ok.1.1
    obtain ⟨nb, hnb, rfl⟩ := regOk_nat ok.1.2
    clear ok
    have hai : (na : Int) < 4 := by omega
    have rn : ¬ rg = w.heap.size := by omega
    have rn' : ¬ w.heap.size = rg := by omega
    have rm : ¬ rg = w.heap.size + 1 := by omega
    have rm' : ¬ w.heap.size + 1 = rg := by omega
    have ES : Hid (stepR bs s (1, (na : Int), (nb : Int), pn) = setReg { s with reads := lookR bs s.reads s.puts nb } na (inBox bs s.puts nb)) := by show _ = _; simp [stepR]
    have LK : Hid (Calls Try.prog 159 #[.slice la bs.length lc, .agg #[.slice ar s.reads.length cr, .slice ap s.puts.length cp, .int .i64 v, .int .i64 0], .int .i64 nb] W fun e w' => LookPost bs s.reads s.puts nb B rv pv v 0 W e w') := by
      have h := l3Look la lc bs nb rv pv s.reads s.puts v 0 B W (SB.out.below BW.out) (by rw [HL4.out]; exact hnb) (by rw [HL4.out]; omega) (fun x e e' => by have h1 := HLA.out x e; have h2 := (lR.out _ e').1; omega) HHW.out.reads HHW.out.puts HHW.out.apart (by omega) lx ly
      rw [HRV.out, HPV.out] at h ⊢
      exact h
    clear c0 c1 c2 c3 fN y0 y1 y2 y3 fY
    obtain ⟨c0, c1, c2, c3, fN, y0, y1, y2, y3, fY, _⟩ := MW.out
    go_enter Try.func129, Try.ntmps129
    go_upto_region 1 with fail
    rw [← HW.out]
    go_wp2_with fail
    refine Calls.mono LK.out ?_
    rintro e w2 ⟨rv2, rfl, o1, o2, ap2, gr, hnew⟩
    obtain ⟨a2, cc2, hrv2, _, _, _, _⟩ := o1.open
    have T2 : Turned rv.ownBlock.toList W w2 := Turned.ofGrown gr (fun g e => by simp [e])
    have nmem : ∀ x, w.heap.size ≤ x → x ∉ rv.ownBlock.toList := fun x hx e => by
      rw [Option.mem_toList] at e
      have := lR.out x e
      omega
    have nrg : rg ∉ rv.ownBlock.toList := fun e => by
      rw [Option.mem_toList] at e
      have := lR.out rg e
      omega
    have hs2 : W.heap.size ≤ w2.heap.size := gr.size
    have H2 : Held B rg w2 rv2 pv { s with reads := lookR bs s.reads s.puts nb } := ⟨HHW.out.regs.turned T2 nrg, HHW.out.four, fun o => by rw [World.frozen?_of_block (w := W) (a := ⟨rg, o, none⟩) (T2.block rg HHW.out.regs.1 nrg)]; exact HHW.out.free o, o1, o2, ap2⟩
    obtain ⟨X, hX⟩ : ∃ X, X = w2.alloc (.cells #[.slice a2 (lookR bs s.reads s.puts nb).length cc2, .slice ap s.puts.length cp, .int .i64 v, .int .i64 0] 31) := ⟨_, rfl⟩
    have T3 : Turned [] w2 X := by rw [hX]; exact (Turned.refl _ _).alloc _
    have hsX : X.heap.size = w2.heap.size + 1 := by rw [hX]; simp
    have gX : X.heap[w2.heap.size]? = some (.cells #[.slice a2 (lookR bs s.reads s.puts nb).length cc2, .slice ap s.puts.length cp, .int .i64 v, .int .i64 0] 31 (0, 0)) := by rw [hX]; exact heap_new _ _
    have x0 : X.cell? ⟨w2.heap.size, 0, none⟩ = some (.slice a2 (lookR bs s.reads s.puts nb).length cc2) := (cell_heap gX 0).trans rfl
    have x1 : X.cell? ⟨w2.heap.size, 1, none⟩ = some (.slice ap s.puts.length cp) := (cell_heap gX 1).trans rfl
    have x2 : X.cell? ⟨w2.heap.size, 2, none⟩ = some (.int .i64 v) := (cell_heap gX 2).trans rfl
    have x3 : X.cell? ⟨w2.heap.size, 3, none⟩ = some (.int .i64 0) := (cell_heap gX 3).trans rfl
    have M3 : Hid (StepMem w.heap.size X (.slice ar s.reads.length cr) (.slice ap s.puts.length cp) v 0) := (MW.out.turned T2 (nmem _ (Nat.le_refl _)) (nmem _ (by omega))).turned T3 (by simp) (by simp)
    have H3 : Hid (Held B rg X rv2 pv { s with reads := lookR bs s.reads s.puts nb }) := H2.turned T3 (by simp) (by simp) (by simp)
    have K3 : Hid (Kp B rg w X) := KW.out.trans ((T2.kp (by omega) (fun x e => by rw [Option.mem_toList] at e; exact .inl (lR.out x e).1)).trans (T3.kp (by omega) (by simp)))
    have tX : ∀ o, X.cell? ⟨w.heap.size + 1, o, none⟩ = W.cell? ⟨w.heap.size + 1, o, none⟩ := fun o => (World.cell?_of_block (w := w2) (a := ⟨w.heap.size + 1, o, none⟩) (T3.block _ (by show w.heap.size + 1 < _; omega) (by simp))).trans (World.cell?_of_block (w := W) (a := ⟨w.heap.size + 1, o, none⟩) (T2.block _ (by show w.heap.size + 1 < _; omega) (nmem (w.heap.size + 1) (by omega))))
    have j1 : X.cell? ⟨w.heap.size + 1, 1, none⟩ = some (.int .i64 na) := (tX 1).trans i1
    have j0 : X.cell? ⟨w.heap.size + 1, 0, none⟩ = some (.int .i64 1) := (tX 0).trans i0
    have rga := H3.out.regs.2 na (by rw [H3.out.four]; exact hna)
    rw [Nat.zero_add] at rga
    have fa := H3.out.free na
    have NR2 : Hid (∀ g, rv2.ownBlock = some g → g ≠ w.heap.size ∧ g ≠ w.heap.size + 1 + 1) := fun g e => by
      have h2 := World.ownsRow.lt o1 g e
      rcases hnew g e with h | h
      · have := lR.out g h; omega
      · omega
    have HRV2 : Hid (rv2 = .slice a2 (lookR bs s.reads s.puts nb).length cc2) := hrv2
    have hN2 : ¬ w.heap.size = w2.heap.size := by omega
    have hN2' : ¬ w2.heap.size = w.heap.size := by omega
    have hN3 : ¬ w.heap.size + 1 = w2.heap.size := by omega
    have hN3' : ¬ w2.heap.size = w.heap.size + 1 := by omega
    have rg2 : ¬ rg = w2.heap.size := by omega
    have rg2' : ¬ w2.heap.size = rg := by omega
    obtain ⟨d0, d1, d2, d3, fM, e0, e1, e2, e3, fZ, _⟩ := M3.out
    have HX : Hid (X = _) := hX
    rw [hrv2, HPV.out]
    clear o1 o2 ap2 gr hnew hrv2 T2 T3 H2 nmem c0 c1 c2 c3 fN y0 y1 y2 y3 fY hX gX tX i0 i1 i2 i3
    go_upto_region 4 with fail
    rw [← HX.out]
    go_wp2_with fail
    refine (l1Num (inBox bs s.puts nb) _).mono ?_
    rintro e w1 ⟨rfl, hw⟩
    have TR : Turned [rg] X (X.setCell ⟨rg, na, none⟩ (.int .i64 (inBox bs s.puts nb))) := (Turned.refl _ _).set (by simp) _
    have HR1 := H3.out.setR hrg na hna (inBox bs s.puts nb)
    have MR1 := M3.out.turned TR (by simp; omega) (by simp; omega)
    have KR1 := K3.out.trans (TR.kp (B := B) (rg := rg) (by have := K3.out.size; omega) (by simp))
    obtain ⟨Y, hY⟩ : ∃ Y, Y = X.setCell ⟨rg, na, none⟩ (.int .i64 (inBox bs s.puts nb)) := ⟨_, rfl⟩
    rw [← hY] at HR1 MR1 KR1 hw
    have T1 : Turned [w.heap.size] Y w1 := by rw [hw]; exact ((((Turned.refl _ _).set (by simp) _).set (by simp) _).set (by simp) _).set (by simp) _
    have M1 : StepMem w.heap.size w1 (.slice a2 (lookR bs s.reads s.puts nb).length cc2) (.slice ap s.puts.length cp) v 0 := by rw [hw]; exact MR1.put4
    have H1 : Hid (Held B rg w1 rv2 pv (setReg { s with reads := lookR bs s.reads s.puts nb } na (inBox bs s.puts nb))) := HR1.turned T1 (by simp; omega) (fun g e => by have := NR2.out g e; simp; omega) (fun g e => by have := NP.out g e; simp; omega)
    have K1 : Hid (Kp B rg w w1) := KR1.trans (T1.kp (by have := KR1.size; omega) (by simp; omega))
    obtain ⟨c0', c1', c2', c3', fN', y0', y1', y2', y3', fY', _⟩ := M1
    clear hw T1 TR HR1 MR1 KR1 hY Y d0 d1 d2 d3 fM e0 e1 e2 e3 fZ x0 x1 x2 x3 rga fa
    cases hk : numOk (inBox bs s.puts nb) with
    | true =>
      have EC : Hid ((setReg { s with reads := lookR bs s.reads s.puts nb } na (inBox bs s.puts nb)).code = 0) := by show _ = _; simp [setReg, hk, HC.out]
      go_wp2
      refine bodyPost_ret (v := .agg #[.slice a2 (lookR bs s.reads s.puts nb).length cc2, .slice ap s.puts.length cp, .int .i64 v, .int .i64 0]) (by simp [results, Try.results129, go_sem, y0', y1', y2', y3']) rfl ⟨rv2, pv, by rw [HRV2.out, HPV.out, ES.out, EC.out], ?_⟩
      rw [ES.out]
      refine TAIL.out w1 _ rv2 pv _ H1.out K1.out NR2.out NP.out ?_
      repeat (first | exact Turned.refl _ _ | refine Turned.set ?_ (by simp) _)
    | false =>
      have EC : Hid ((setReg { s with reads := lookR bs s.reads s.puts nb } na (inBox bs s.puts nb)).code = 2) := by show _ = _; simp [setReg, hk]
      go_wp2
      refine bodyPost_ret (v := .agg #[.slice a2 (lookR bs s.reads s.puts nb).length cc2, .slice ap s.puts.length cp, .int .i64 v, .int .i64 2]) (by simp [results, Try.results129, go_sem, y0', y1', y2', y3']) rfl ⟨rv2, pv, by rw [HRV2.out, HPV.out, ES.out, EC.out], ?_⟩
      rw [ES.out]
      refine TAIL.out w1 _ rv2 pv _ H1.out K1.out NR2.out NP.out ?_
      repeat (first | exact Turned.refl _ _ | refine Turned.set ?_ (by simp) _)
end Go.Proofs.Ytfifiobcmdmefaa.Own

namespace Go.Proofs.Ytfifiobcmdmefaa.Own
open Go.RowKit
set_option linter.unusedVariables false
set_option linter.unusedSimpArgs false

set_option maxRecDepth 100000 in
set_option maxHeartbeats 4000000 in
theorem l3StepP (la : Option Addr) (lc : Nat) (bs : List P2) (rg rc : Nat) (s : RunSt) (rv pv : Value) (p : Q4) (v : Int) (B : Nat) (w : World)
    (hb : Sl w la bs) (l4 : bs.length = 4) (hla : ∀ x, la = some x → x.block < B) (hh : Held B rg w rv pv s) (hrg : rg < B) (hB : B ≤ w.heap.size) (lx : s.reads.length ≤ 1000) (ly : s.puts.length ≤ 1000)
    (hp : insOk p = true) (h6 : p.1 = 2) (hc : s.code = 0) (hn : ∀ i, i < 4 → numOk (s.regs.getD i 0) = true) :
    Calls Try.prog 129 #[.slice la bs.length lc, .agg #[rv, pv, .int .i64 v, .int .i64 s.code], .slice (some ⟨rg, 0, none⟩) 4 rc, .agg #[.int .i64 p.1, .int .i64 p.2.1, .int .i64 p.2.2.1, .int .i64 p.2.2.2]] w fun e w' => StepPost bs s p B rg v w e w' := by
  obtain ⟨kd, pa, pb, pn⟩ := p
  dsimp only at h6 ⊢
  obtain ⟨ar, cr, hrv, slr, hcr, hmr, hbr⟩ := hh.reads.open
  obtain ⟨ap, cp, hpv, slp, hcp, hmp, hbp⟩ := hh.puts.open
  have HH : Hid (Held B rg w rv pv s) := hh
  have HRV : Hid (rv = .slice ar s.reads.length cr) := hrv
  have HPV : Hid (pv = .slice ap s.puts.length cp) := hpv
  have SB : Hid (Sl w la bs) := hb
  have HLA : Hid (∀ x, la = some x → x.block < B) := hla
  have HN : Hid (∀ i, i < 4 → numOk (s.regs.getD i 0) = true) := hn
  have HC : Hid (s.code = 0) := hc
  have HOK : Hid (insOk (kd, pa, pb, pn) = true) := hp
  have HL4 : Hid (bs.length = 4) := l4
  clear l4 hh slr slp hb hbr hbp hcr hcp hmr hmp hla hn hp
  obtain ⟨W, hW⟩ : ∃ W, W = ((w.alloc (.cells #[.slice ar s.reads.length cr, .slice ap s.puts.length cp, .int .i64 v, .int .i64 0] 31)).alloc (.cells #[.int .i64 kd, .int .i64 pa, .int .i64 pb, .int .i64 pn] 188)).alloc (.cells #[.slice none 0 0, .slice none 0 0, .int .i64 0, .int .i64 0] 31) := ⟨_, rfl⟩
  have BW : Hid (Below w.heap.size w W) := by show Below _ _ _; rw [hW]; exact (((Below.refl _ _).alloc (Nat.le_refl _) _).alloc (by simp) _).alloc (by simp; omega) _
  have HSW : Hid (W.heap.size = w.heap.size + 3) := by show _ = _; rw [hW]; simp
  have g0 : W.heap[w.heap.size]? = some (.cells #[.slice ar s.reads.length cr, .slice ap s.puts.length cp, .int .i64 v, .int .i64 0] 31 (0, 0)) := by
    rw [hW, heap_old _ _ _ (by simp; omega), heap_old _ _ _ (by simp)]; exact heap_new _ _
  have g1 : W.heap[w.heap.size + 1]? = some (.cells #[.int .i64 kd, .int .i64 pa, .int .i64 pb, .int .i64 pn] 188 (0, 0)) := by
    rw [hW, heap_old _ _ _ (by simp)]; exact heap_new2 _ _ _
  have g2 : W.heap[w.heap.size + 1 + 1]? = some (.cells #[.slice none 0 0, .slice none 0 0, .int .i64 0, .int .i64 0] 31 (0, 0)) := by
    rw [hW]
    have := heap_new ((w.alloc (.cells #[.slice ar s.reads.length cr, .slice ap s.puts.length cp, .int .i64 v, .int .i64 0] 31)).alloc (.cells #[.int .i64 kd, .int .i64 pa, .int .i64 pb, .int .i64 pn] 188)) (.cells #[.slice none 0 0, .slice none 0 0, .int .i64 0, .int .i64 0] 31)
    rw [size_new, size_new] at this
    exact this
  have MW : Hid (StepMem w.heap.size W (.slice ar s.reads.length cr) (.slice ap s.puts.length cp) v 0) :=
    ⟨(cell_heap g0 0).trans rfl, (cell_heap g0 1).trans rfl, (cell_heap g0 2).trans rfl, (cell_heap g0 3).trans rfl, fun o => frozen_heap g0 o, (cell_heap g2 0).trans rfl, (cell_heap g2 1).trans rfl, (cell_heap g2 2).trans rfl, (cell_heap g2 3).trans rfl, fun o => frozen_heap g2 o, by have := HSW.out; omega⟩
  have i0 : W.cell? ⟨w.heap.size + 1, 0, none⟩ = some (.int .i64 kd) := (cell_heap g1 0).trans rfl
  have i1 : W.cell? ⟨w.heap.size + 1, 1, none⟩ = some (.int .i64 pa) := (cell_heap g1 1).trans rfl
  have i2 : W.cell? ⟨w.heap.size + 1, 2, none⟩ = some (.int .i64 pb) := (cell_heap g1 2).trans rfl
  have i3 : W.cell? ⟨w.heap.size + 1, 3, none⟩ = some (.int .i64 pn) := (cell_heap g1 3).trans rfl
  have GI : Hid (W.heap[w.heap.size + 1]? = some (.cells #[.int .i64 kd, .int .i64 pa, .int .i64 pb, .int .i64 pn] 188 (0, 0))) := g1
  have HW : Hid (W = _) := hW
  clear hW g0 g1 g2
  have hNW : w.heap.size + 1 + 1 < W.heap.size := by have := HSW.out; omega
  have HHW : Hid (Held B rg W rv pv s) := HH.out.turned (Turned.ofBelow (L := []) BW.out) (by simp) (by simp) (by simp)
  have lR : Hid (∀ g, rv.ownBlock = some g → B ≤ g ∧ g < w.heap.size) := fun g hg => World.ownsRow.lt HH.out.reads g hg
  have lP : Hid (∀ g, pv.ownBlock = some g → B ≤ g ∧ g < w.heap.size) := fun g hg => World.ownsRow.lt HH.out.puts g hg
  have KW : Hid (Kp B rg w W) := (Turned.ofBelow (L := []) BW.out).kp hB (by simp)
  -- from where the run's own cells and what it will say alone turn
  have TAIL : Hid (∀ (w1 W' : World) (rv' pv' : Value) (s' : RunSt), Held B rg w1 rv' pv' s' → Kp B rg w w1 → (∀ g, rv'.ownBlock = some g → g ≠ w.heap.size ∧ g ≠ w.heap.size + 1 + 1) → (∀ g, pv'.ownBlock = some g → g ≠ w.heap.size ∧ g ≠ w.heap.size + 1 + 1) → Turned [w.heap.size, w.heap.size + 1 + 1] w1 W' → Held B rg W' rv' pv' s' ∧ Kp B rg w W') := by
    intro w1 W' rv' pv' s' h1 h2 h3 h4 h5
    refine ⟨h1.turned h5 (by simp; omega) (fun g e => by have := h3 g e; simp; omega) (fun g e => by have := h4 g e; simp; omega), h2.trans (h5.kp (Nat.le_trans hB h2.size) (fun x hx => ?_))⟩
    simp at hx
    omega
  have NR : Hid (∀ g, rv.ownBlock = some g → g ≠ w.heap.size ∧ g ≠ w.heap.size + 1 + 1) := fun g e => by have := lR.out g e; omega
  have NP : Hid (∀ g, pv.ownBlock = some g → g ≠ w.heap.size ∧ g ≠ w.heap.size + 1 + 1) := fun g e => by have := lP.out g e; omega
  obtain ⟨c0, c1, c2, c3, fN, y0, y1, y2, y3, fY, _⟩ := MW.out
  rw [HRV.out, HPV.out, HC.out]
  subst h6
  · -- a put
    have ok := HOK.out
    rw [insOk_2] at ok
    simp only [Bool.and_eq_true] at ok
    obtain ⟨na, hna, rfl⟩ := regOk_nat ok.1.1
    obtain ⟨nb, hnb, rfl⟩ := regOk_nat ok.1.2
    clear ok
    have hbi : (nb : Int) < 4 := by omega
    have rgb := HHW.out.regs.2 nb (by rw [HHW.out.four]; exact hnb)
    rw [Nat.zero_add] at rgb
    have ES : Hid (stepR bs s (2, (na : Int), (nb : Int), pn) = { s with puts := putP s.puts na (s.regs.getD nb 0) }) := by show _ = _; simp [stepR]
    generalize s.regs.getD nb 0 = x at rgb ES
    have PT : Hid (∀ u, Turned [] W u → Calls Try.prog 160 #[.agg #[.slice ar s.reads.length cr, .slice ap s.puts.length cp, .int .i64 v, .int .i64 0], .int .i64 na, .int .i64 x] u fun e w' => PutPost s.reads s.puts na x B rv pv v 0 u e w') := by
      intro u hu
      have hh := HHW.out.turned hu (by simp) (by simp) (by simp)
      have h := l3Put na x rv pv s.reads s.puts v 0 B u hh.reads hh.puts hh.apart (by have := hu.size; omega) ly
      rw [HRV.out, HPV.out] at h ⊢
      exact h
    go_enter Try.func129, Try.ntmps129
    go_upto_region 1 with fail
    rw [← HW.out]
    go_upto_region 7 with fail
    refine region_still_tail 8 (by kernel_rfl) (by kernel_rfl) ?_
    simp only [List.take_succ_cons, List.take_zero, List.drop_succ_cons, List.drop_zero]
    iterate 8 still_step
    refine wpStill_nil ?_
    go_wp2_with fail
    refine Calls.mono (PT.out _ (Turned.refl _ _).drew) ?_
    rintro e w2 ⟨pv2, rfl, o1, o2, ap2, gr, hnew⟩
    obtain ⟨a2, cc2, hpv2, _, _, _, _⟩ := o2.open
    have T2 : Turned pv.ownBlock.toList W w2 := Turned.trans (Turned.refl _ _).drew (Turned.ofGrown gr (fun g e => by simp [e]))
    have nmem : ∀ x, w.heap.size ≤ x → x ∉ pv.ownBlock.toList := fun x hx e => by
      rw [Option.mem_toList] at e
      have := lP.out x e
      omega
    have nrg : rg ∉ pv.ownBlock.toList := fun e => by
      rw [Option.mem_toList] at e
      have := lP.out rg e
      omega
    have hs2 : W.heap.size ≤ w2.heap.size := gr.size
    have H2 : Hid (Held B rg w2 rv pv2 { s with puts := putP s.puts na x }) := ⟨HHW.out.regs.turned T2 nrg, HHW.out.four, fun o => by rw [World.frozen?_of_block (w := W) (a := ⟨rg, o, none⟩) (T2.block rg HHW.out.regs.1 nrg)]; exact HHW.out.free o, o1, o2, ap2⟩
    have M2 := MW.out.turned T2 (nmem _ (Nat.le_refl _)) (nmem _ (by omega))
    have K2 : Hid (Kp B rg w w2) := KW.out.trans (T2.kp (by omega) (fun x e => by rw [Option.mem_toList] at e; exact .inl (lP.out x e).1))
    have tX : ∀ o, w2.cell? ⟨w.heap.size + 1, o, none⟩ = W.cell? ⟨w.heap.size + 1, o, none⟩ := fun o => World.cell?_of_block (w := W) (a := ⟨w.heap.size + 1, o, none⟩) (T2.block _ (by show w.heap.size + 1 < _; omega) (nmem (w.heap.size + 1) (by omega)))
    have j0 : w2.cell? ⟨w.heap.size + 1, 0, none⟩ = some (.int .i64 2) := (tX 0).trans i0
    have NP2 : Hid (∀ g, pv2.ownBlock = some g → g ≠ w.heap.size ∧ g ≠ w.heap.size + 1 + 1) := fun g e => by
      have h2 := World.ownsRow.lt o2 g e
      rcases hnew g e with h | h
      · have := lP.out g h; omega
      · have : W.heap.size ≤ g := h; omega
    have HPV2 : Hid (pv2 = .slice a2 (putP s.puts na x).length cc2) := hpv2
    obtain ⟨d0, d1, d2, d3, fM, e0, e1, e2, e3, fZ, _⟩ := M2
    rw [hpv2, HRV.out]
    clear o1 o2 ap2 gr hnew hpv2 T2 nmem c0 c1 c2 c3 fN y0 y1 y2 y3 fY tX i0 i1 i2 i3 rgb
    go_wp2
    refine bodyPost_ret (v := .agg #[.slice ar s.reads.length cr, .slice a2 (putP s.puts na x).length cc2, .int .i64 v, .int .i64 0]) (by simp [results, Try.results129, go_sem, e0, e1, e2, e3]) rfl ⟨rv, pv2, by rw [HRV.out, HPV2.out, ES.out, HC.out], ?_⟩
    rw [ES.out]
    refine TAIL.out w2 _ rv pv2 _ H2.out K2.out NR.out NP2.out ?_
    iterate 8 refine Turned.set ?_ (by simp) _
    exact Turned.refl _ _
end Go.Proofs.Ytfifiobcmdmefaa.Own

namespace Go.Proofs.Ytfifiobcmdmefaa.Own
open Go.RowKit
set_option linter.unusedVariables false

def loadsQ (p : Q4) (b : Int) : Bool := p.1 == 1 && p.2.2.1 == b
def putsQ (p : Q4) (b : Int) : Bool := p.1 == 2 && p.2.1 == b
/-- Of the first k boxes those that are met, ascending. -/
def boxesTo (f : Q4 → Int → Bool) (xs : List Q4) : Nat → List Int
  | 0 => []
  | k + 1 => boxesTo f xs k ++ (if xs.any (fun p => f p (k : Int)) then [(k : Int)] else [])

theorem boxesTo_len (f : Q4 → Int → Bool) (xs : List Q4) (k : Nat) : (boxesTo f xs k).length ≤ k := by
  induction k with
  | zero => simp [boxesTo]
  | succ k ih => simp only [boxesTo, List.length_append]; split <;> simp <;> omega

theorem any_take_succ {α : Type} {p : α → Bool} {xs : List α} {k : Nat} (d : α) (h : k < xs.length) : (xs.take (k + 1)).any p = ((xs.take k).any p || p (xs.getD k d)) := by
  rw [List.take_succ_eq_append_getElem h, List.any_append]
  simp only [List.any_cons, List.any_nil, Bool.or_false, List.getD_eq_getElem?_getD, List.getElem?_eq_getElem h, Option.getD_some]

theorem any_true {α : Type} {p : α → Bool} {xs : List α} {k : Nat} (d : α) (h : k < xs.length) (hp : p (xs.getD k d) = true) : xs.any p = true := by
  rw [List.any_eq_true]
  exact ⟨xs.getD k d, by simp [List.getD, h], hp⟩

/-- Rows that lie below n₀. -/
def Sl4b (n₀ : Nat) (w : World) (a : Option Addr) (xs : List Q4) : Prop := xs = [] ∨ ∃ b off, a = some ⟨b, off, none⟩ ∧ b < n₀ ∧ At4 w b off xs
theorem Sl4b.below {n₀ : Nat} {w w' : World} {a : Option Addr} {xs : List Q4} (h : Sl4b n₀ w a xs) (hb : Below n₀ w w') : Sl4b n₀ w' a xs := by
  rcases h with h | ⟨b, off, rfl, hlt, h⟩
  · exact .inl h
  · exact .inr ⟨b, off, rfl, hlt, h.belowAt hb hlt⟩
theorem Sl4b.sl {n₀ : Nat} {w : World} {a : Option Addr} {xs : List Q4} (h : Sl4b n₀ w a xs) : Sl4 w a xs := by
  rcases h with h | ⟨b, off, rfl, hlt, h⟩
  · exact .inl h
  · exact .inr ⟨b, off, rfl, h⟩
theorem Sl4.at {w : World} {a : Option Addr} {xs : List Q4} (h : Sl4 w a xs) : Sl4b w.heap.size w a xs := by
  rcases h with h | ⟨b, off, rfl, h⟩
  · exact .inl h
  · exact .inr ⟨b, off, rfl, h.1, h⟩
theorem grownBy_of_below {w w' : World} (h : Below w.heap.size w w') : w.grownBy w' none := ⟨h.os, h.tape, h.output, h.size, fun k hk _ => h.block k hk⟩
theorem ownsRow_lower {w : World} {B B' e s n : Nat} {v : Value} {xs : List Value} (h : w.ownsRow B e s v n xs) (hB : B' ≤ B) : w.ownsRow B' e s v n xs := by
  obtain ⟨h1, h2⟩ := h
  refine ⟨h1, ?_⟩
  rcases h2 with h2 | ⟨g, cap, cur, hv, hg, r⟩
  · exact .inl h2
  · exact .inr ⟨g, cap, cur, hv, Nat.le_trans hB hg, r⟩
end Go.Proofs.Ytfifiobcmdmefaa.Own

namespace Go.Proofs.Ytfifiobcmdmefaa.Own
open Go.RowKit
set_option linter.unusedVariables false

theorem run_jump {bs : List P2} {xs : List Q4} {k : Nat} {s : RunSt} (hk : k < xs.length) (hc : s.code = 0) (h6 : (xs.getD k q0).1 = 6) (hl : s.regs.getD (xs.getD k q0).2.1.toNat 0 < s.regs.getD (xs.getD k q0).2.2.1.toNat 0) : runR bs xs k s = runR bs xs (k + (xs.getD k q0).2.2.2.toNat + 1) s := by
  rw [runR, dif_pos hk, if_pos hc, if_pos h6, if_pos hl]
theorem run_go {bs : List P2} {xs : List Q4} {k : Nat} {s : RunSt} (hk : k < xs.length) (hc : s.code = 0) (h6 : (xs.getD k q0).1 = 6) (hl : ¬ s.regs.getD (xs.getD k q0).2.1.toNat 0 < s.regs.getD (xs.getD k q0).2.2.1.toNat 0) : runR bs xs k s = runR bs xs (k + 1) s := by
  rw [runR, dif_pos hk, if_pos hc, if_pos h6, if_neg hl]
theorem run_step {bs : List P2} {xs : List Q4} {k : Nat} {s : RunSt} (hk : k < xs.length) (hc : s.code = 0) (h6 : ¬ (xs.getD k q0).1 = 6) : runR bs xs k s = runR bs xs (k + 1) (stepR bs s (xs.getD k q0)) := by
  rw [runR, dif_pos hk, if_pos hc, if_neg h6]
theorem run_stop {bs : List P2} {xs : List Q4} {k : Nat} {s : RunSt} (hc : ¬ s.code = 0) : runR bs xs k s = s := by
  rw [runR]
  by_cases hk : k < xs.length
  · rw [dif_pos hk, if_neg hc]
  · rw [dif_neg hk]
theorem run_end {bs : List P2} {xs : List Q4} {k : Nat} {s : RunSt} (hk : ¬ k < xs.length) : runR bs xs k s = s := by
  rw [runR, dif_neg hk]

/-- What holds of a run at each of its instructions. -/
structure Inv (bs : List P2) (xs : List Q4) (s : RunSt) : Prop where
  four : s.regs.length = 4
  num : s.code = 0 → ∀ i, i < 4 → numOk (s.regs.getD i 0) = true
  code : s.code = 0 ∨ s.code = 1 ∨ s.code = 2
  rd : ∀ p, p ∈ s.reads → ∃ j : Nat, j < 4 ∧ p = ((j : Int), (bs.getD j (0, 0)).1) ∧ xs.any (fun q => loadsQ q (j : Int)) = true
  rdN : (s.reads.map Prod.fst).Nodup
  pt : ∀ p, p ∈ s.puts → ∃ j : Nat, j < 4 ∧ p.1 = (j : Int) ∧ numOk p.2 = true ∧ xs.any (fun q => putsQ q (j : Int)) = true
  ptN : (s.puts.map Prod.fst).Nodup

theorem hasBox_iff {ys : List P2} {j : Nat} : hasBox ys j = true ↔ (j : Int) ∈ ys.map Prod.fst := by
  simp [hasBox, List.any_eq_true]
theorem hasBox_no {ys : List P2} {j : Nat} : hasBox ys j = false ↔ (j : Int) ∉ ys.map Prod.fst := by
  rw [← Bool.not_eq_true, hasBox_iff]
theorem nodup_snoc {l : List Int} {x : Int} (h : l.Nodup) (hx : x ∉ l) : (l ++ [x]).Nodup := by
  rw [List.nodup_append]
  refine ⟨h, by simp, fun a ha b hb e => ?_⟩
  simp at hb
  subst hb e
  exact hx ha
theorem idx_lt {ys : List P2} {j : Nat} (h : hasBox ys j = true) : idxBox ys j < ys.length := by
  unfold hasBox at h
  rw [List.any_eq_true] at h
  obtain ⟨x, hx, hp⟩ := h
  exact List.findIdx_lt_length_of_exists ⟨x, hx, hp⟩
theorem idx_at {ys : List P2} {j : Nat} (h : hasBox ys j = true) : (ys.getD (idxBox ys j) (0, 0)).1 = (j : Int) := by
  have hl := idx_lt h
  have := List.findIdx_getElem (p := fun p : P2 => p.1 == (j : Int)) (xs := ys) (w := hl)
  rw [List.getD_eq_getElem?_getD, List.getElem?_eq_getElem hl]
  simp only [beq_iff_eq] at this
  exact this
theorem putP_fst (ys : List P2) (j : Nat) (n : Int) : (putP ys j n).map Prod.fst = if hasBox ys j then ys.map Prod.fst else ys.map Prod.fst ++ [(j : Int)] := by
  unfold putP
  cases h : hasBox ys j with
  | false => simp
  | true =>
    simp only [if_true]
    apply List.ext_getElem?
    intro i
    simp only [List.getElem?_map, List.getElem?_set]
    have hl := idx_lt h
    by_cases e : idxBox ys j = i
    · subst e
      simp [hl, List.getD]
    · simp [e]
theorem putP_mem {ys : List P2} {j : Nat} {n : Int} {p : P2} (hp : p ∈ putP ys j n) : p ∈ ys ∨ p = ((j : Int), n) := by
  unfold putP at hp
  cases h : hasBox ys j with
  | false => rw [h] at hp; simpa using hp
  | true =>
    rw [h] at hp
    simp only [if_true] at hp
    rcases List.mem_or_eq_of_mem_set hp with h' | h'
    · exact .inl h'
    · rw [idx_at h] at h'; exact .inr h'

theorem numOk_eq : numOk2 = numOk := rfl
theorem getD_setI (xs : List Int) (i j : Nat) (v : Int) (hi : i < xs.length) : (xs.set i v).getD j 0 = if i = j then v else xs.getD j 0 := by
  simp only [List.getD_eq_getElem?_getD, List.getElem?_set]
  by_cases e : i = j
  · simp [e, show j < xs.length by omega]
  · simp [e]

theorem Inv.setReg {bs : List P2} {xs : List Q4} {s : RunSt} (h : Inv bs xs s) (hc : s.code = 0) (a : Nat) (ha : a < 4) (n : Int) : Inv bs xs (setReg s a n) := by
  refine ⟨by simp [Own.setReg, h.four], fun hc' i hi => ?_, ?_, h.rd, h.rdN, h.pt, h.ptN⟩
  · simp only [Own.setReg] at hc' ⊢
    rw [getD_setI _ _ _ _ (by rw [h.four]; exact ha)]
    by_cases e : a = i
    · rw [if_pos e]
      cases hn : numOk n with
      | true => rfl
      | false => rw [hn] at hc'; simp at hc'
    · rw [if_neg e]; exact h.num hc i hi
  · simp only [Own.setReg]
    split
    · exact h.code
    · simp

theorem lookR_cases (bs xs ys : List P2) (j : Nat) : lookR bs xs ys j = xs ∨ (hasBox ys j = false ∧ hasBox xs j = false ∧ lookR bs xs ys j = xs ++ [((j : Int), (bs.getD j (0, 0)).1)]) := by
  unfold lookR
  cases hasBox ys j <;> cases hasBox xs j <;> simp

theorem Inv.step {bs : List P2} {xs : List Q4} {s : RunSt} (h : Inv bs xs s) (hc : s.code = 0) (p : Q4) (hp : insOk p = true) (hm : p ∈ xs) (h6 : p.1 ≠ 6) : Inv bs xs (stepR bs s p) := by
  obtain ⟨kd, a, b, n⟩ := p
  simp only [stepR]
  split
  · rename_i e; subst e
    rw [insOk_1] at hp
    simp only [Bool.and_eq_true] at hp
    obtain ⟨na, hna, rfl⟩ := regOk_nat hp.1.1
    obtain ⟨nb, hnb, rfl⟩ := regOk_nat hp.1.2
    simp only [Int.toNat_natCast]
    have h' : Inv bs xs { s with reads := lookR bs s.reads s.puts nb } := by
      refine ⟨h.four, h.num, h.code, fun p hp' => ?_, ?_, h.pt, h.ptN⟩
      · rcases lookR_cases bs s.reads s.puts nb with e | ⟨_, _, e⟩
        · simp only [e] at hp'; exact h.rd p hp'
        · simp only [e, List.mem_append, List.mem_singleton] at hp'
          rcases hp' with hp' | rfl
          · exact h.rd p hp'
          · exact ⟨nb, hnb, rfl, by rw [List.any_eq_true]; exact ⟨_, hm, by simp [loadsQ]⟩⟩
      · rcases lookR_cases bs s.reads s.puts nb with e | ⟨_, h2, e⟩
        · simp only [e]; exact h.rdN
        · simp only [e, List.map_append, List.map_cons, List.map_nil]
          exact nodup_snoc h.rdN (hasBox_no.1 h2)
    exact h'.setReg hc na hna _
  split
  · rename_i e; subst e
    rw [insOk_2] at hp
    simp only [Bool.and_eq_true] at hp
    obtain ⟨na, hna, rfl⟩ := regOk_nat hp.1.1
    obtain ⟨nb, hnb, rfl⟩ := regOk_nat hp.1.2
    simp only [Int.toNat_natCast]
    refine ⟨h.four, h.num, h.code, h.rd, h.rdN, fun p hp' => ?_, ?_⟩
    · rcases putP_mem hp' with h' | rfl
      · exact h.pt p h'
      · exact ⟨na, hna, rfl, h.num hc nb hnb, by rw [List.any_eq_true]; exact ⟨_, hm, by simp [putsQ]⟩⟩
    · simp only [putP_fst]
      split
      · exact h.ptN
      · rename_i e
        exact nodup_snoc h.ptN (hasBox_no.1 (by simpa using e))
  split
  · rename_i e; subst e
    rw [insOk_3] at hp
    simp only [Bool.and_eq_true] at hp
    obtain ⟨na, hna, rfl⟩ := regOk_nat hp.1.1
    exact h.setReg hc na hna _
  split
  · rename_i e; subst e
    rw [insOk_4] at hp
    simp only [Bool.and_eq_true] at hp
    obtain ⟨na, hna, rfl⟩ := regOk_nat hp.1.1
    exact h.setReg hc na hna _
  split
  · rename_i e; subst e
    rw [insOk_5] at hp
    simp only [Bool.and_eq_true] at hp
    obtain ⟨na, hna, rfl⟩ := regOk_nat hp.1.1
    exact h.setReg hc na hna _
  · exact ⟨h.four, fun e => by simp at e, by simp, h.rd, h.rdN, h.pt, h.ptN⟩

theorem Inv.init (bs : List P2) (xs : List Q4) : Inv bs xs initR := by
  refine ⟨rfl, fun _ i hi => ?_, .inl rfl, fun p hp => by simp [initR] at hp, by simp [initR], fun p hp => by simp [initR] at hp, by simp [initR]⟩
  have : i = 0 ∨ i = 1 ∨ i = 2 ∨ i = 3 := by omega
  rcases this with rfl | rfl | rfl | rfl <;> rfl

theorem getD_mem {xs : List Q4} {k : Nat} (h : k < xs.length) : xs.getD k q0 ∈ xs := by simp [List.getD, h]

theorem Inv.run {bs : List P2} {xs : List Q4} (hx : ∀ p, p ∈ xs → insOk p = true) (k : Nat) (s : RunSt) (h : Inv bs xs s) : Inv bs xs (runR bs xs k s) := by
  induction k, s using runR.induct (xs := xs) (bs := bs) with
  | case1 k s hk hc h6 hl ih => rw [run_jump hk hc h6 hl]; exact ih h
  | case2 k s hk hc h6 hl ih => rw [run_go hk hc h6 hl]; exact ih h
  | case3 k s hk hc h6 ih => rw [run_step hk hc h6]; exact ih (h.step hc _ (hx _ (getD_mem hk)) (getD_mem hk) h6)
  | case4 k s hk hc => rw [run_stop hc]; exact h
  | case5 k s hk => rw [run_end hk]; exact h

/-- The reads only grow. -/
theorem step_reads (bs : List P2) (s : RunSt) (p : Q4) : ∃ r, (stepR bs s p).reads = s.reads ++ r := by
  simp only [stepR]
  split
  · simp only [setReg]
    rcases lookR_cases bs s.reads s.puts p.2.2.1.toNat with e | ⟨_, _, e⟩
    · exact ⟨[], by simp [e]⟩
    · exact ⟨_, e⟩
  repeat' split
  all_goals exact ⟨[], by simp [setReg]⟩
theorem run_reads (bs : List P2) (xs : List Q4) (k : Nat) (s : RunSt) : ∃ r, (runR bs xs k s).reads = s.reads ++ r := by
  induction k, s using runR.induct (xs := xs) (bs := bs) with
  | case1 k s hk hc h6 hl ih => rw [run_jump hk hc h6 hl]; exact ih
  | case2 k s hk hc h6 hl ih => rw [run_go hk hc h6 hl]; exact ih
  | case3 k s hk hc h6 ih =>
    rw [run_step hk hc h6]
    obtain ⟨r, hr⟩ := ih
    obtain ⟨r', hr'⟩ := step_reads bs s (xs.getD k q0)
    exact ⟨r' ++ r, by rw [hr, hr', List.append_assoc]⟩
  | case4 k s hk hc => rw [run_stop hc]; exact ⟨[], by simp⟩
  | case5 k s hk => rw [run_end hk]; exact ⟨[], by simp⟩

/-- On boxes that are the same where a run looked it is the same. -/
theorem run_same (bs bs' : List P2) (xs : List Q4) (k : Nat) (s : RunSt) (h : ∀ j : Nat, (j : Int) ∈ (runR bs xs k s).reads.map Prod.fst → bs'.getD j (0, 0) = bs.getD j (0, 0)) : runR bs' xs k s = runR bs xs k s := by
  induction k, s using runR.induct (xs := xs) (bs := bs) with
  | case1 k s hk hc h6 hl ih =>
    rw [run_jump hk hc h6 hl] at h
    rw [run_jump hk hc h6 hl, run_jump (bs := bs) hk hc h6 hl, ih h]
  | case2 k s hk hc h6 hl ih =>
    rw [run_go hk hc h6 hl] at h
    rw [run_go hk hc h6 hl, run_go (bs := bs) hk hc h6 hl, ih h]
  | case3 k s hk hc h6 ih =>
    rw [run_step hk hc h6] at h
    have e : stepR bs' s (xs.getD k q0) = stepR bs s (xs.getD k q0) := by
      obtain ⟨r, hr⟩ := run_reads bs xs (k + 1) (stepR bs s (xs.getD k q0))
      rw [hr] at h
      generalize xs.getD k q0 = p at h
      clear hr ih
      unfold stepR at h ⊢
      by_cases h1 : p.1 = 1
      · rw [if_pos h1, if_pos h1]
        rw [if_pos h1] at h
        simp only [setReg] at h
        have hb : hasBox s.puts p.2.2.1.toNat = true ∨ (hasBox s.puts p.2.2.1.toNat = false ∧ bs'.getD p.2.2.1.toNat (0, 0) = bs.getD p.2.2.1.toNat (0, 0)) := by
          cases hp : hasBox s.puts p.2.2.1.toNat with
          | true => exact .inl rfl
          | false =>
            refine .inr ⟨rfl, h _ ?_⟩
            rw [List.map_append, List.mem_append]
            left
            unfold lookR
            rw [hp]
            cases hq : hasBox s.reads p.2.2.1.toNat with
            | true => simpa using hasBox_iff.1 hq
            | false => simp
        rcases hb with hb | ⟨hb, hb'⟩
        · simp only [lookR, inBox, hb, if_true]
        · simp only [lookR, inBox, hb, hb']
      · rw [if_neg h1, if_neg h1]
    rw [run_step hk hc h6, run_step (bs := bs) hk hc h6, e, ih h]
  | case4 k s hk hc => rw [run_stop hc, run_stop hc]
  | case5 k s hk => rw [run_end hk, run_end hk]

/-- The same but for how often boxes were written. -/
structure Alike2 (s t : RunSt) : Prop where
  regs : s.regs = t.regs
  reads : s.reads.map Prod.fst = t.reads.map Prod.fst
  puts : s.puts = t.puts
  code : s.code = t.code

theorem hasBox_map {xs ys : List P2} (h : xs.map Prod.fst = ys.map Prod.fst) (j : Nat) : hasBox xs j = hasBox ys j := by
  cases e : hasBox ys j with
  | true => rw [hasBox_iff, h, ← hasBox_iff]; exact e
  | false => rw [hasBox_no, h, ← hasBox_no]; exact e

theorem step_alike {bs bs' : List P2} {s t : RunSt} (h : Alike2 s t) (p : Q4) (hv : p.1 = 1 → (bs.getD p.2.2.1.toNat (0, 0)).2 = (bs'.getD p.2.2.1.toNat (0, 0)).2) : Alike2 (stepR bs s p) (stepR bs' t p) := by
  obtain ⟨h1, h2, h3, h4⟩ := h
  unfold stepR
  by_cases e1 : p.1 = 1
  · rw [if_pos e1, if_pos e1]
    have hi : inBox bs s.puts p.2.2.1.toNat = inBox bs' t.puts p.2.2.1.toNat := by unfold inBox; rw [h3, hv e1]
    rw [hi]
    refine ⟨by simp only [setReg, h1], ?_, h3, by simp only [setReg, h4]⟩
    simp only [setReg, lookR, h3, hasBox_map h2]
    split
    · exact h2
    split
    · exact h2
    · simp [h2]
  rw [if_neg e1, if_neg e1]
  split
  · exact ⟨h1, h2, by simp only [h1, h3], h4⟩
  split
  · exact ⟨by simp only [setReg, h1], h2, h3, by simp only [setReg, h4]⟩
  split
  · exact ⟨by simp only [setReg, h1], h2, h3, by simp only [setReg, h1, h4]⟩
  split
  · exact ⟨by simp only [setReg, h1], h2, h3, by simp only [setReg, h1, h4]⟩
  · exact ⟨h1, h2, h3, rfl⟩

/-- On boxes of the same numbers, where a program can look, it does the same. -/
theorem run_alike {bs bs' : List P2} {xs : List Q4} (hv : ∀ p, p ∈ xs → p.1 = 1 → (bs.getD p.2.2.1.toNat (0, 0)).2 = (bs'.getD p.2.2.1.toNat (0, 0)).2) (k : Nat) (s t : RunSt) (h : Alike2 s t) : Alike2 (runR bs xs k s) (runR bs' xs k t) := by
  induction k, s using runR.induct (xs := xs) (bs := bs) generalizing t with
  | case1 k s hk hc h6 hl ih =>
    have hc' := hc; have hl' := hl
    rw [h.code] at hc'; rw [h.regs] at hl'
    rw [run_jump hk hc h6 hl, run_jump (bs := bs') hk hc' h6 hl']; exact ih t h
  | case2 k s hk hc h6 hl ih =>
    have hc' := hc; have hl' := hl
    rw [h.code] at hc'; rw [h.regs] at hl'
    rw [run_go hk hc h6 hl, run_go (bs := bs') hk hc' h6 hl']; exact ih t h
  | case3 k s hk hc h6 ih =>
    have hc' := hc
    rw [h.code] at hc'
    rw [run_step hk hc h6, run_step (bs := bs') hk hc' h6]; exact ih _ (step_alike h _ (hv _ (getD_mem hk)))
  | case4 k s hk hc =>
    have hc' := hc
    rw [h.code] at hc'
    rw [run_stop hc, run_stop hc']; exact h
  | case5 k s hk => rw [run_end hk, run_end hk]; exact h

/-- A program that goes on: what it does ahead, and then from some place on. -/
theorem run_append (bs : List P2) (xs zs : List Q4) (k : Nat) (s : RunSt) :
    ∃ e, xs.length ≤ e ∧ runR bs (xs ++ zs) k s = (if (runR bs xs k s).code = 0 then runR bs (xs ++ zs) e (runR bs xs k s) else runR bs xs k s) ∧
      ((∀ i, i < xs.length → (xs.getD i q0).1 = 6 → i + (xs.getD i q0).2.2.2.toNat < xs.length) → k ≤ xs.length → e = xs.length) := by
  have hg : ∀ i, i < xs.length → (xs ++ zs).getD i q0 = xs.getD i q0 := fun i hi => by simp [List.getD, List.getElem?_append_left hi]
  have hl' : ∀ i, i < xs.length → i < (xs ++ zs).length := fun i hi => by simp; omega
  induction k, s using runR.induct (xs := xs) (bs := bs) with
  | case1 k s hk hc h6 hl ih =>
    obtain ⟨e, h1, h2, h3⟩ := ih
    refine ⟨e, h1, ?_, fun hn hk' => h3 hn (by have := hn k hk h6; omega)⟩
    rw [run_jump hk hc h6 hl, ← h2]
    rw [← hg k hk] at h6 hl ⊢
    rw [run_jump (hl' k hk) hc h6 hl]
  | case2 k s hk hc h6 hl ih =>
    obtain ⟨e, h1, h2, h3⟩ := ih
    refine ⟨e, h1, ?_, fun hn hk' => h3 hn (by omega)⟩
    rw [run_go hk hc h6 hl, ← h2]
    rw [← hg k hk] at h6 hl
    rw [run_go (hl' k hk) hc h6 hl]
  | case3 k s hk hc h6 ih =>
    obtain ⟨e, h1, h2, h3⟩ := ih
    refine ⟨e, h1, ?_, fun hn hk' => h3 hn (by omega)⟩
    rw [run_step hk hc h6, ← h2]
    rw [← hg k hk] at h6 ⊢
    rw [run_step (hl' k hk) hc h6]
  | case4 k s hk hc =>
    refine ⟨xs.length, Nat.le_refl _, ?_, fun _ _ => rfl⟩
    rw [run_stop hc, run_stop hc, if_neg hc]
  | case5 k s hk =>
    refine ⟨k, by omega, ?_, fun _ h => by omega⟩
    rw [run_end (xs := xs) hk]
    by_cases hc : s.code = 0
    · rw [if_pos hc]
    · rw [if_neg hc, run_stop hc]
end Go.Proofs.Ytfifiobcmdmefaa.Own

namespace Go.Proofs.Ytfifiobcmdmefaa.Own
open Go.RowKit
set_option linter.unusedVariables false

theorem len_le_of_sub : ∀ {l m : List Int}, l.Nodup → (∀ x, x ∈ l → x ∈ m) → l.length ≤ m.length
  | [], m, _, _ => Nat.zero_le _
  | x :: l, m, hn, hs => by
    rw [List.nodup_cons] at hn
    have hx := hs x (by simp)
    have := len_le_of_sub (l := l) (m := m.erase x) hn.2 (fun y hy => by
      rw [List.mem_erase_of_ne (by rintro rfl; exact hn.1 hy)]
      exact hs y (by simp [hy]))
    rw [List.length_erase_of_mem hx] at this
    have hm : 0 < m.length := List.length_pos_of_mem hx
    simp only [List.length_cons]
    omega

theorem mem_boxesTo {f : Q4 → Int → Bool} {xs : List Q4} {k j : Nat} : (j : Int) ∈ boxesTo f xs k ↔ j < k ∧ xs.any (fun p => f p (j : Int)) = true := by
  induction k with
  | zero => simp [boxesTo]
  | succ k ih =>
    simp only [boxesTo, List.mem_append, ih]
    constructor
    · rintro (⟨h1, h2⟩ | h)
      · exact ⟨by omega, h2⟩
      · split at h
        · rename_i e
          simp at h
          have : j = k := by omega
          subst this
          exact ⟨by omega, e⟩
        · simp at h
    · rintro ⟨h1, h2⟩
      by_cases e : j = k
      · subst e; right; rw [if_pos h2]; simp
      · left; exact ⟨by omega, h2⟩

theorem okAll_of {f : Int → Bool} {ys : List P2} (hn : (ys.map Prod.fst).Nodup) (h : ∀ p, p ∈ ys → regOk p.1 = true ∧ f p.2 = true) : okAll f ys = true := by
  rw [okAll_iff]
  intro i hi
  have hm : ys.getD i (0, 0) ∈ ys := by simp [List.getD, hi]
  obtain ⟨h1, h2⟩ := h _ hm
  simp only [okAt, h1, h2, Bool.true_and, Bool.not_eq_true', List.any_eq_false, beq_iff_eq]
  intro p hp e
  obtain ⟨j, hj, rfl⟩ := List.getElem_of_mem hp
  rw [List.length_take] at hj
  rw [List.getElem_take] at e
  have hj' : j < ys.length := by omega
  have := List.pairwise_iff_getElem.1 hn j i (by simpa using hj') (by simpa using hi) (by omega)
  simp only [List.getElem_map] at this
  rw [List.getD_eq_getElem?_getD, List.getElem?_eq_getElem hi] at e
  exact this e

theorem progOk_ins {xs : List Q4} (h : progOk xs = true) : ∀ p, p ∈ xs → insOk p = true := by
  simp only [progOk, Bool.and_eq_true, List.all_eq_true] at h
  exact h.2

/-- The end of a run on what is ok. -/
theorem inv_of {bs : List P2} {xs : List Q4} (hp : progOk xs = true) : Inv bs xs (runR bs xs 0 initR) := (Inv.init bs xs).run (progOk_ins hp) 0 _

theorem outR_reads (s : RunSt) : (outR s).reads = s.reads := by unfold outR; split <;> rfl
theorem outR_puts (s : RunSt) : (outR s).puts = if s.code = 0 then s.puts else [] := by unfold outR; split <;> rfl
theorem outR_code (s : RunSt) : (outR s).code = s.code := by
  unfold outR; split
  · rename_i h; exact h.symm
  · rfl
theorem outR_val (s : RunSt) : (outR s).val = if s.code = 0 then s.regs.getD 0 0 else 0 := by unfold outR; split <;> rfl

theorem reads_ok {bs : List P2} {xs : List Q4} {s : RunSt} (hb : boxOk bs = true) (h : Inv bs xs s) : okAll verOk s.reads = true := by
  refine okAll_of h.rdN fun p hp => ?_
  obtain ⟨j, hj, rfl, _⟩ := h.rd p hp
  have := boxOk_ver hb j hj
  exact ⟨regOk_of j hj, by simp only [verOk, Bool.and_eq_true, decide_eq_true_eq]; exact this⟩
theorem puts_ok {bs : List P2} {xs : List Q4} {s : RunSt} (h : Inv bs xs s) : okAll numOk s.puts = true := by
  refine okAll_of h.ptN fun p hp => ?_
  obtain ⟨j, hj, e, hv, _⟩ := h.pt p hp
  exact ⟨by rw [e]; exact regOk_of j hj, hv⟩
theorem okAll_nil (f : Int → Bool) : okAll f [] = true := rfl

theorem out_ok {bs : List P2} {xs : List Q4} {s : RunSt} (hb : boxOk bs = true) (h : Inv bs xs s) : execOk (outR s).reads (outR s).puts (outR s).val (outR s).code = true := by
  unfold outR
  split
  · rename_i hc
    simp only [execOk, endOk, if_true, Bool.and_eq_true]
    exact ⟨⟨h.num hc 0 (by omega), reads_ok hb h⟩, puts_ok h⟩
  · rename_i hc
    have e : s.code = 1 ∨ s.code = 2 := by rcases h.code with e | e | e; exact absurd e hc; exact .inl e; exact .inr e
    simp only [execOk, endOk, if_neg hc, if_pos e, List.length_nil, decide_true, Bool.and_true, Bool.and_eq_true]
    exact ⟨by simp [reads_ok hb h], okAll_nil _⟩

theorem execRun_ok (bs : List P2) (xs : List Q4) : execOk (execRun bs xs).reads (execRun bs xs).puts (execRun bs xs).val (execRun bs xs).code = true := by
  unfold execRun
  cases hb : boxOk bs <;> cases hp : progOk xs
  · rfl
  · rfl
  · rfl
  · exact out_ok hb (inv_of hp)

theorem execRun_is {bs : List P2} {xs : List Q4} (hb : boxOk bs = true) (hp : progOk xs = true) : execRun bs xs = outR (runR bs xs 0 initR) := by simp [execRun, hb, hp]
theorem execRun_form {bs : List P2} {xs : List Q4} (h : (boxOk bs && progOk xs) = false) : execRun bs xs = ⟨[], [], 0, 3⟩ := by simp [execRun, h]

theorem reads_few {bs : List P2} {xs : List Q4} {s : RunSt} (h : Inv bs xs s) : s.reads.length ≤ (boxesTo loadsQ xs 4).length := by
  have := len_le_of_sub (l := s.reads.map Prod.fst) (m := boxesTo loadsQ xs 4) h.rdN (fun x hx => by
    rw [List.mem_map] at hx
    obtain ⟨p, hp, rfl⟩ := hx
    obtain ⟨j, hj, rfl, ha⟩ := h.rd p hp
    exact mem_boxesTo.2 ⟨hj, ha⟩)
  simpa using this
theorem puts_few {bs : List P2} {xs : List Q4} {s : RunSt} (h : Inv bs xs s) : s.puts.length ≤ (boxesTo putsQ xs 4).length := by
  have := len_le_of_sub (l := s.puts.map Prod.fst) (m := boxesTo putsQ xs 4) h.ptN (fun x hx => by
    rw [List.mem_map] at hx
    obtain ⟨p, hp, rfl⟩ := hx
    obtain ⟨j, hj, e, _, ha⟩ := h.pt p hp
    rw [e]
    exact mem_boxesTo.2 ⟨hj, ha⟩)
  simpa using this
theorem boxesTo_len' (f : Q4 → Int → Bool) (xs : List Q4) (k : Nat) : (boxesTo f xs k).length ≤ k := by
  induction k with
  | zero => simp [boxesTo]
  | succ k ih => simp only [boxesTo, List.length_append]; split <;> simp <;> omega
theorem execRun_few (bs : List P2) (xs : List Q4) : (execRun bs xs).reads.length ≤ (boxesTo loadsQ xs 4).length ∧ (execRun bs xs).puts.length ≤ (boxesTo putsQ xs 4).length := by
  cases h : boxOk bs && progOk xs with
  | false => rw [execRun_form h]; exact ⟨Nat.zero_le _, Nat.zero_le _⟩
  | true =>
    simp only [Bool.and_eq_true] at h
    rw [execRun_is h.1 h.2, outR_reads, outR_puts]
    have hi := inv_of (bs := bs) h.2
    refine ⟨reads_few hi, ?_⟩
    split
    · exact puts_few hi
    · exact Nat.zero_le _
theorem execRun_four (bs : List P2) (xs : List Q4) : (execRun bs xs).reads.length ≤ 4 ∧ (execRun bs xs).puts.length ≤ 4 := by
  have := execRun_few bs xs
  have h1 := boxesTo_len' loadsQ xs 4
  have h2 := boxesTo_len' putsQ xs 4
  omega

theorem freshAt_of {bs : List P2} {j : Nat} : freshAt bs ((j : Int), (bs.getD j (0, 0)).1) = true := by simp [freshAt]
theorem execRun_fresh {bs : List P2} {xs : List Q4} (hb : boxOk bs = true) (hp : progOk xs = true) : execFresh bs (execRun bs xs).reads (execRun bs xs).puts (execRun bs xs).val (execRun bs xs).code = true := by
  simp only [execFresh, hb, execRun_ok, Bool.true_and]
  rw [execRun_is hb hp, outR_reads, List.all_eq_true]
  intro p hp'
  obtain ⟨j, hj, rfl, _⟩ := (inv_of (bs := bs) hp).rd p hp'
  exact freshAt_of

/-- On other boxes that are the same where it looked a run is the same. -/
theorem execRun_same {bs bs' : List P2} {xs : List Q4} (hb : boxOk bs = true) (hb' : boxOk bs' = true) (hp : progOk xs = true) (h : ∀ j : Nat, j < 4 → hasBox (execRun bs xs).reads j = true → bs'.getD j (0, 0) = bs.getD j (0, 0)) : execRun bs' xs = execRun bs xs := by
  rw [execRun_is hb hp, execRun_is hb' hp]
  rw [execRun_is hb hp, outR_reads] at h
  rw [run_same bs bs' xs 0 initR]
  intro j hj
  have hi := inv_of (bs := bs) hp
  have hj' := hj
  rw [List.mem_map] at hj
  obtain ⟨p, hp', e⟩ := hj
  obtain ⟨i, hi4, rfl, _⟩ := hi.rd p hp'
  simp only at e
  have : i = j := by omega
  subst this
  exact h i hi4 (hasBox_iff.2 hj')

/-- On boxes of the same numbers, where the program can look, a run does the same. -/
theorem execRun_alike {bs bs' : List P2} {xs : List Q4} (hb : boxOk bs = true) (hb' : boxOk bs' = true) (hv : ∀ j : Nat, j < 4 → (j : Int) ∈ boxesTo loadsQ xs 4 → (bs.getD j (0, 0)).2 = (bs'.getD j (0, 0)).2) : (execRun bs xs).puts = (execRun bs' xs).puts ∧ (execRun bs xs).val = (execRun bs' xs).val ∧ (execRun bs xs).code = (execRun bs' xs).code := by
  cases hp : progOk xs with
  | false => rw [execRun_form (by simp [hp]), execRun_form (by simp [hp])]; exact ⟨rfl, rfl, rfl⟩
  | true =>
    rw [execRun_is hb hp, execRun_is hb' hp]
    have := run_alike (bs := bs) (bs' := bs') (xs := xs) (fun p hp' e => by
      have hi := progOk_ins hp p hp'
      obtain ⟨kd, a, b, n⟩ := p
      simp only at e
      subst e
      rw [insOk_1] at hi
      simp only [Bool.and_eq_true] at hi
      obtain ⟨j, hj, rfl⟩ := regOk_nat hi.1.2
      simp only [Int.toNat_natCast]
      exact hv j hj (mem_boxesTo.2 ⟨hj, by rw [List.any_eq_true]; exact ⟨_, hp', by simp [loadsQ]⟩⟩)) 0 initR initR ⟨rfl, rfl, rfl, rfl⟩
    rw [outR_puts, outR_puts, outR_val, outR_val, outR_code, outR_code, this.puts, this.regs, this.code]
    exact ⟨rfl, rfl, rfl⟩
end Go.Proofs.Ytfifiobcmdmefaa.Own

namespace Go.Proofs.Ytfifiobcmdmefaa.Own
open Go.RowKit
set_option linter.unusedVariables false
set_option linter.unusedSimpArgs false

set_option maxRecDepth 100000 in
set_option maxHeartbeats 1000000 in
theorem specProgOk (a : Option Addr) (c : Nat) (xs : List Q4) (w : World) (h : Sl4 w a xs) (hn : xs.length ≤ 2 ^ 40) :
    Calls Try.prog 128 #[.slice a xs.length c] w fun e w' => e = .returned (.bool (progOk xs)) ∧ Below w.heap.size w w' := by
  have E : Hid (progOk xs = (decide (xs.length ≤ 10) && xs.all insOk)) := rfl
  have H1 : Hid (Sl4 w a xs) := h
  clear h
  by_cases hl : xs.length ≤ 10
  · have HL : Hid (decide (xs.length ≤ 10) = true) := by show _ = _; simpa using hl
    go_enter Try.func128, Try.ntmps128
    go_wp2
    go_loopw [3] (fun i wr => ∃ k : Nat, k ≤ xs.length ∧ i = .int .i64 k ∧ Hid ((xs.take k).all insOk = true) ∧ Below w.heap.size w wr) (fun i _ => xs.length - (intOf i).toNat)
    case atStart => exact ⟨0, Nat.zero_le _, rfl, rfl, Below.refl _ _⟩
    case round =>
      obtain ⟨k, hk, rfl, hA, hB⟩ := hrel
      by_cases hlt : k < xs.length
      · rcases H1.out with h | ⟨b1, o1, rfl, h1⟩
        · subst h; simp at hlt
        have H1' : Hid (At4 w b1 o1 xs) := h1
        clear h1
        obtain ⟨p, hp⟩ : ∃ p, p = xs.getD k q0 := ⟨_, rfl⟩
        obtain ⟨ca, cb, cc, cd⟩ := H1'.out.2 k hlt
        rw [← hB.cell H1'.out.1, ← hp] at ca cb cc cd
        have HP : Hid (p = xs.getD k q0) := hp
        have HB : Hid (Below w.heap.size w wr) := hB
        clear hp hB
        have CP := fun W => l2Ins p W
        have N : Hid (insOk p = true → (xs.take (k + 1)).all insOk = true) := by
          intro t
          rw [all_take_succ q0 hlt, hA.out, ← HP.out, t]; rfl
        have F : Hid (insOk p = false → xs.all insOk = false) := fun t => all_false (k := k) q0 hlt (by rw [← HP.out]; exact t)
        generalize insOk p = r at CP N F
        obtain ⟨p1, p2, p3, p4⟩ := p
        have CP' : Hid (∀ W, Calls Try.prog 158 #[.agg #[.int .i64 p1, .int .i64 p2, .int .i64 p3, .int .i64 p4]] W fun e w' => e = .returned (.bool r) ∧ Below W.heap.size W w') := CP
        clear CP
        cases r with
        | true =>
          have N' : Hid ((xs.take (k + 1)).all insOk = true) := N.out rfl
          clear N F
          go_wp2_with fail
          refine (CP'.out _).mono ?_
          rintro e w1 ⟨rfl, hb1⟩
          have B1 : Hid (Below w.heap.size w w1) := HB.out.trans (hb1.mono HB.out.size)
          clear hb1
          go_wp2
          go_roundw
          case rel => exact ⟨k + 1, by omega, by go_num, N'.out, B1.out⟩
          case measure => simp [intOf]; omega
        | false =>
          have F' : Hid (xs.all insOk = false) := F.out rfl
          clear N F
          go_wp2_with fail
          refine (CP'.out _).mono ?_
          rintro e w1 ⟨rfl, hb1⟩
          have B1 : Hid (Below w.heap.size w w1) := HB.out.trans (hb1.mono HB.out.size)
          clear hb1
          go_wp2
          go_ret
          exact ⟨ret_bool (by rw [E.out, F'.out]; simp), B1.out⟩
      · go_wp2
        go_ret
        have : k = xs.length := by omega
        subst this
        refine ⟨ret_bool ?_, hB⟩
        have h := hA.out
        rw [List.take_length] at h
        rw [E.out, HL.out, h]; rfl
  · have HL : Hid (decide (xs.length ≤ 10) = false) := by show _ = _; simpa using hl
    have hl' : (10 : Int) < (xs.length : Int) := by omega
    go_enter Try.func128, Try.ntmps128
    go_wp2
    go_ret
    exact ⟨ret_bool (by rw [E.out, HL.out]; rfl), Below.refl _ _⟩
end Go.Proofs.Ytfifiobcmdmefaa.Own

namespace Go.Proofs.Ytfifiobcmdmefaa.Own
open Go.RowKit
set_option linter.unusedVariables false
set_option linter.unusedSimpArgs false

/-- What a run hands back: four cells, its lists rows of its own from B on. -/
def RunPost (o : RunOut) (B : Nat) (e : Ending) (w' : World) : Prop :=
  ∃ rv pv, e = .returned (.agg #[rv, pv, .int .i64 o.val, .int .i64 o.code]) ∧ OwnP 140 w' B rv o.reads ∧ OwnP 143 w' B pv o.puts ∧ (rv.ownBlock = none ∨ rv.ownBlock ≠ pv.ownBlock)

theorem l3Step (la : Option Addr) (lc : Nat) (bs : List P2) (rg rc : Nat) (s : RunSt) (rv pv : Value) (p : Q4) (v : Int) (B : Nat) (w : World)
    (hb : Sl w la bs) (l4 : bs.length = 4) (hla : ∀ x, la = some x → x.block < B) (hh : Held B rg w rv pv s) (hrg : rg < B) (hB : B ≤ w.heap.size) (lx : s.reads.length ≤ 1000) (ly : s.puts.length ≤ 1000)
    (hp : insOk p = true) (h6 : ¬ p.1 = 6) (hc : s.code = 0) (hn : ∀ i, i < 4 → numOk (s.regs.getD i 0) = true) :
    Calls Try.prog 129 #[.slice la bs.length lc, .agg #[rv, pv, .int .i64 v, .int .i64 s.code], .slice (some ⟨rg, 0, none⟩) 4 rc, .agg #[.int .i64 p.1, .int .i64 p.2.1, .int .i64 p.2.2.1, .int .i64 p.2.2.2]] w fun e w' => StepPost bs s p B rg v w e w' := by
  by_cases h1 : p.1 = 1
  · exact l3StepL la lc bs rg rc s rv pv p v B w hb l4 hla hh hrg hB lx ly hp h1 hc hn
  by_cases h2 : p.1 = 2
  · exact l3StepP la lc bs rg rc s rv pv p v B w hb l4 hla hh hrg hB lx ly hp h2 hc hn
  refine l3StepA la lc bs rg rc s rv pv p v B w hb l4 hla hh hrg hB lx ly hp ?_ hc hn
  obtain ⟨kd, a, b, n⟩ := p
  by_cases h3 : kd = 3
  · exact .inl h3
  by_cases h7 : kd = 7
  · exact .inr (.inl h7)
  by_cases h4 : kd = 4
  · exact .inr (.inr (.inl h4))
  by_cases h5 : kd = 5
  · exact .inr (.inr (.inr h5))
  rw [insOk_no a b n ⟨h1, h2, h3, h4, h5, h6, h7⟩] at hp
  cases hp

/-- Of the blocks below B none but those listed have turned. -/
structure Kq (B : Nat) (L : List Nat) (w w' : World) : Prop where
  os : w'.os = w.os
  tape : w'.tape = w.tape
  output : w'.output = w.output
  size : w.heap.size ≤ w'.heap.size
  block : ∀ k, k < B → k ∉ L → w'.heap[k]? = w.heap[k]?
theorem Kq.refl (B : Nat) (L : List Nat) (w : World) : Kq B L w w := ⟨rfl, rfl, rfl, Nat.le_refl _, fun _ _ _ => rfl⟩
theorem Kq.trans {B : Nat} {L : List Nat} {a b c : World} (h : Kq B L a b) (k : Kq B L b c) : Kq B L a c :=
  ⟨k.os.trans h.os, k.tape.trans h.tape, k.output.trans h.output, Nat.le_trans h.size k.size, fun i hi hn => (k.block i hi hn).trans (h.block i hi hn)⟩
theorem Kp.kq {B rg : Nat} {L : List Nat} {w w' : World} (h : Kp B rg w w') (hr : rg ∈ L) : Kq B L w w' := ⟨h.os, h.tape, h.output, h.size, fun k hk hn => h.block k hk (fun e => hn (e ▸ hr))⟩
theorem Turned.kq {B : Nat} {L L' : List Nat} {w w' : World} (h : Turned L' w w') (hB : B ≤ w.heap.size) (hL : ∀ x, x ∈ L' → x ∈ L ∨ B ≤ x) : Kq B L w w' :=
  ⟨h.os, h.tape, h.output, h.size, fun k hk hn => h.block k (by omega) (fun e => by rcases hL k e with h | h; exact hn h; omega)⟩
theorem Kq.below {B B' : Nat} {L : List Nat} {w w' : World} (h : Kq B L w w') (hL : ∀ x, x ∈ L → B' ≤ x) (hB : B' ≤ B) : Below B' w w' :=
  ⟨h.os, h.tape, h.output, h.size, fun k hk => h.block k (by omega) (fun e => by have := hL k e; omega)⟩
theorem Kq.cell {B b : Nat} {L : List Nat} {w w' : World} (h : Kq B L w w') (hb : b < B) (hn : b ∉ L) (o : Nat) : w'.cell? ⟨b, o, none⟩ = w.cell? ⟨b, o, none⟩ :=
  World.cell?_of_block (w := w) (a := ⟨b, o, none⟩) (h.block b hb hn)
theorem Kq.frozen {B b : Nat} {L : List Nat} {w w' : World} (h : Kq B L w w') (hb : b < B) (hn : b ∉ L) (o : Nat) : w'.frozen? ⟨b, o, none⟩ = w.frozen? ⟨b, o, none⟩ :=
  World.frozen?_of_block (w := w) (a := ⟨b, o, none⟩) (h.block b hb hn)
theorem C4.kq {B b : Nat} {L : List Nat} {w w' : World} {x0 x1 x2 x3 : Value} (h : C4 w b x0 x1 x2 x3) (k : Kq B L w w') (hb : b < B) (hn : b ∉ L) : C4 w' b x0 x1 x2 x3 := by
  refine ⟨Nat.lt_of_lt_of_le h.1 k.size, ?_⟩
  rw [k.cell hb hn, k.cell hb hn, k.cell hb hn, k.cell hb hn]; exact h.2
theorem C4.put4 {w : World} {b : Nat} {x0 x1 x2 x3 : Value} (h : C4 w b x0 x1 x2 x3) (y0 y1 y2 y3 : Value) :
    C4 ((((w.setCell ⟨b, 0, none⟩ y0).setCell ⟨b, 1, none⟩ y1).setCell ⟨b, 2, none⟩ y2).setCell ⟨b, 3, none⟩ y3) b y0 y1 y2 y3 := by
  obtain ⟨h0, c0, c1, c2, c3⟩ := h
  refine ⟨by simpa [World.setCell] using h0, ?_, ?_, ?_, ?_⟩
  · rw [setCell_cell_other _ _ _ _ _ (by omega), setCell_cell_other _ _ _ _ _ (by omega), setCell_cell_other _ _ _ _ _ (by omega)]
    exact setCell_cell_same _ _ _ _ _ c0
  · rw [setCell_cell_other _ _ _ _ _ (by omega), setCell_cell_other _ _ _ _ _ (by omega)]
    exact setCell_cell_same _ _ _ _ _ (by rw [setCell_cell_other _ _ _ _ _ (by omega)]; exact c1)
  · rw [setCell_cell_other _ _ _ _ _ (by omega)]
    exact setCell_cell_same _ _ _ _ _ (by rw [setCell_cell_other _ _ _ _ _ (by omega), setCell_cell_other _ _ _ _ _ (by omega)]; exact c2)
  · exact setCell_cell_same _ _ _ _ _ (by rw [setCell_cell_other _ _ _ _ _ (by omega), setCell_cell_other _ _ _ _ _ (by omega), setCell_cell_other _ _ _ _ _ (by omega)]; exact c3)

theorem Sl.kq {B : Nat} {L : List Nat} {w w' : World} {a : Option Addr} {xs : List P2} (h : Sl w a xs) (k : Kq B L w w') (hb : ∀ x, a = some x → x.block < B ∧ x.block ∉ L) : Sl w' a xs := by
  rcases h with h | ⟨b, off, rfl, h⟩
  · exact .inl h
  · obtain ⟨h1, h2⟩ := hb _ rfl
    exact .inr ⟨b, off, rfl, Nat.lt_of_lt_of_le h.1 k.size, fun i hi => by rw [k.cell h1 h2, k.cell h1 h2]; exact h.2 i hi⟩
theorem At4.kq {B b off : Nat} {L : List Nat} {w w' : World} {xs : List Q4} (h : At4 w b off xs) (k : Kq B L w w') (hb : b < B) (hn : b ∉ L) : At4 w' b off xs :=
  h.congr (Nat.lt_of_lt_of_le h.1 k.size) (fun o => k.cell hb hn o)

theorem mkRegs (w : World) : (Instr.makeSlice 82 (.int .i64 4) (.int .i64 4)).run Try.prog w = .ok (.slice (some ⟨w.heap.size, 0, none⟩) 4 4) (w.alloc (.cells #[.int .i64 0, .int .i64 0, .int .i64 0, .int .i64 0] 3)) := by kernel_rfl

set_option maxRecDepth 100000 in
set_option maxHeartbeats 4000000 in
theorem specRun (la pa : Option Addr) (lc pc : Nat) (bs : List P2) (xs : List Q4) (w : World) (hb : Sl w la bs) (hx : Sl4 w pa xs) (l1 : bs.length ≤ 2 ^ 40) (l2 : xs.length ≤ 2 ^ 40) :
    Calls Try.prog 95 #[.slice la bs.length lc, .slice pa xs.length pc] w fun e w' => RunPost (execRun bs xs) w.heap.size e w' ∧ Below w.heap.size w w' := by
  have SB : Hid (Sl w la bs) := hb
  have SX : Hid (Sl4 w pa xs) := hx
  clear hb hx
  obtain ⟨W, hW⟩ : ∃ W, W = w.alloc (.cells #[.slice none 0 0, .slice none 0 0, .int .i64 0, .int .i64 0] 31) := ⟨_, rfl⟩
  have BW : Hid (Below w.heap.size w W) := by show Below _ _ _; rw [hW]; exact below_new _ _
  have HSW : Hid (W.heap.size = w.heap.size + 1) := by show _ = _; rw [hW]; simp
  have Z0 : Hid (C4 W w.heap.size (.slice none 0 0) (.slice none 0 0) (.int .i64 0) (.int .i64 0)) := by show C4 _ _ _ _ _ _; rw [hW]; exact C4.new _ _ _ _ _ _
  have FZ : Hid (∀ o, W.frozen? ⟨w.heap.size, o, none⟩ = false) := by show ∀ o, _; rw [hW]; exact fun o => frozen_heap (heap_new _ _) o
  have HW : Hid (W = _) := hW
  clear hW
  cases hB : boxOk bs with
  | false =>
    have EF : Hid (execRun bs xs = ⟨[], [], 0, 3⟩) := execRun_form (by simp [hB])
    obtain ⟨_, z0, z1, z2, z3⟩ := Z0.out
    have fz := FZ.out
    go_enter Try.func95, Try.ntmps95
    go_upto_region 1 with fail
    rw [← HW.out]
    go_wp2_with fail
    refine (specOk la lc bs W (SB.out.below BW.out) l1).mono ?_
    rintro e w1 ⟨rfl, hw⟩
    rw [hw, hB]
    clear hw
    go_wp2
    refine bodyPost_ret (v := .agg #[.slice none 0 0, .slice none 0 0, .int .i64 0, .int .i64 3]) (by simp [results, Try.results95, go_sem, z0, z1, z2, z3]) rfl ?_
    rw [EF.out]
    refine ⟨⟨_, _, rfl, OwnP.nil _ _ _, OwnP.nil _ _ _, .inl rfl⟩, ?_⟩
    exact (((BW.out.setCell (Nat.le_refl _) _).setCell (Nat.le_refl _) _).setCell (Nat.le_refl _) _).setCell (Nat.le_refl _) _
  | true =>
  cases hP : progOk xs with
  | false =>
    have EF : Hid (execRun bs xs = ⟨[], [], 0, 3⟩) := execRun_form (by simp [hP])
    go_enter Try.func95, Try.ntmps95
    go_upto_region 1 with fail
    rw [← HW.out]
    go_wp2_with fail
    refine (specOk la lc bs W (SB.out.below BW.out) l1).mono ?_
    rintro e w1 ⟨rfl, hw⟩
    rw [hw, hB]
    clear hw
    go_wp2_with fail
    refine (specProgOk pa pc xs W (SX.out.below BW.out) l2).mono ?_
    rintro e w2 ⟨rfl, b2⟩
    rw [hP]
    have B2 : Hid (Below w.heap.size w w2) := BW.out.trans (b2.mono BW.out.size)
    obtain ⟨_, z0, z1, z2, z3⟩ := Z0.out.below b2
    have fz : ∀ o, w2.frozen? ⟨w.heap.size, o, none⟩ = false := fun o => by rw [b2.frozen (p := ⟨w.heap.size, o, none⟩) Z0.out.1]; exact FZ.out o
    clear b2
    go_wp2
    refine bodyPost_ret (v := .agg #[.slice none 0 0, .slice none 0 0, .int .i64 0, .int .i64 3]) (by simp [results, Try.results95, go_sem, z0, z1, z2, z3]) rfl ?_
    rw [EF.out]
    refine ⟨⟨_, _, rfl, OwnP.nil _ _ _, OwnP.nil _ _ _, .inl rfl⟩, ?_⟩
    exact (((B2.out.setCell (Nat.le_refl _) _).setCell (Nat.le_refl _) _).setCell (Nat.le_refl _) _).setCell (Nat.le_refl _) _
  | true =>
    have ER : Hid (execRun bs xs = outR (runR bs xs 0 initR)) := execRun_is hB hP
    have HBO : Hid (boxOk bs = true) := hB
    have HPO : Hid (progOk xs = true) := hP
    have HL4 : Hid (bs.length = 4) := boxOk_len hB
    have HLA : Hid (∀ x, la = some x → x.block < w.heap.size) := by
      intro x e
      rcases SB.out with h | ⟨b, off, e', h⟩
      · have := HL4.out; rw [h] at this; simp at this
      · rw [e] at e'; injection e' with e'; rw [e']; exact h.1
    have HX10 : Hid (xs.length ≤ 10) := by simp only [progOk, Bool.and_eq_true, decide_eq_true_eq] at hP; exact hP.1
    go_enter Try.func95, Try.ntmps95
    go_upto_region 1 with fail
    rw [← HW.out]
    go_wp2_with fail
    refine (specOk la lc bs W (SB.out.below BW.out) l1).mono ?_
    rintro e w1 ⟨rfl, hw⟩
    rw [hw, hB]
    clear hw
    go_wp2_with fail
    refine (specProgOk pa pc xs W (SX.out.below BW.out) l2).mono ?_
    rintro e w2 ⟨rfl, b2⟩
    rw [hP]
    have B2 : Hid (Below w.heap.size w w2) := BW.out.trans (b2.mono BW.out.size)
    have Z2 : Hid (C4 w2 w.heap.size (.slice none 0 0) (.slice none 0 0) (.int .i64 0) (.int .i64 0)) := Z0.out.below b2
    have F2 : Hid (∀ o, w2.frozen? ⟨w.heap.size, o, none⟩ = false) := fun o => by rw [b2.frozen (p := ⟨w.heap.size, o, none⟩) Z0.out.1]; exact FZ.out o
    clear b2 hB hP
    obtain ⟨X, hX⟩ : ∃ X, X = (w2.alloc (.cells #[.slice none 0 0, .slice none 0 0, .int .i64 0, .int .i64 0] 31)).alloc (.cells #[.int .i64 0, .int .i64 0, .int .i64 0, .int .i64 0] 3) := ⟨_, rfl⟩
    have hmk := mkRegs
    go_upto_region 5 with fail
    rw [← hX]
    have gr0 : X.heap[w2.heap.size]? = some (.cells #[.slice none 0 0, .slice none 0 0, .int .i64 0, .int .i64 0] 31 (0, 0)) := by rw [hX]; exact heap_new1 _ _ _
    have gr1 : X.heap[w2.heap.size + 1]? = some (.cells #[.int .i64 0, .int .i64 0, .int .i64 0, .int .i64 0] 3 (0, 0)) := by rw [hX]; exact heap_new2 _ _ _
    have hsX : X.heap.size = w2.heap.size + 2 := by rw [hX]; simp
    have BX2 : Below w2.heap.size w2 X := by rw [hX]; exact ((Below.refl _ _).alloc (Nat.le_refl _) _).alloc (by simp) _
    have BX : Hid (Below w.heap.size w X) := B2.out.trans (BX2.mono B2.out.size)
    have ZX : Hid (C4 X w.heap.size (.slice none 0 0) (.slice none 0 0) (.int .i64 0) (.int .i64 0)) := Z2.out.below BX2
    have FX : Hid (∀ o, X.frozen? ⟨w.heap.size, o, none⟩ = false) := fun o => by rw [BX2.frozen (p := ⟨w.heap.size, o, none⟩) Z2.out.1]; exact F2.out o
    have CX : Hid (C4 X w2.heap.size (.slice none 0 0) (.slice none 0 0) (.int .i64 0) (.int .i64 0)) := ⟨by omega, (cell_heap gr0 0).trans rfl, (cell_heap gr0 1).trans rfl, (cell_heap gr0 2).trans rfl, (cell_heap gr0 3).trans rfl⟩
    have HX0 : Hid (Held (w2.heap.size + 2) (w2.heap.size + 1) X (.slice none 0 0) (.slice none 0 0) initR) := by
      refine ⟨⟨by omega, fun i hi => ?_⟩, rfl, fun o => frozen_heap gr1 o, OwnP.nil _ _ _, OwnP.nil _ _ _, .inl rfl⟩
      have hi' : i < 4 := hi
      have : i = 0 ∨ i = 1 ∨ i = 2 ∨ i = 3 := by omega
      rcases this with rfl | rfl | rfl | rfl <;> exact (cell_heap gr1 _).trans rfl
    have FR0 : Hid (∀ o, X.frozen? ⟨w2.heap.size, o, none⟩ = false) := fun o => frozen_heap gr0 o
    have hNN : w.heap.size < w2.heap.size := Z2.out.1
    have HSX : Hid (X.heap.size = w2.heap.size + 2) := hsX
    have l2' : xs.length ≤ 10 := HX10.out
    clear hX gr0 gr1 BX2 hmk hsX
    go_wp2_with fail
    go_loopw [7, 8] (fun i p wr => ∃ (k : Nat) (s : RunSt) (rv pv : Value), i = .int .i64 k ∧ Hid (Held (w2.heap.size + 2) (w2.heap.size + 1) wr rv pv s) ∧ Hid (C4 wr w2.heap.size rv pv (.int .i64 0) (.int .i64 s.code)) ∧ Hid (∀ o, wr.frozen? ⟨w2.heap.size, o, none⟩ = false) ∧ Hid (runR bs xs k s = runR bs xs 0 initR) ∧ Hid (Inv bs xs s) ∧ Hid (Kq (w2.heap.size + 2) [w2.heap.size, w2.heap.size + 1] X wr) ∧ Hid (k ≤ 20)) (fun i _ _ => xs.length - (intOf i).toNat)
    case atStart => exact ⟨0, initR, _, _, rfl, HX0, CX, FR0, rfl, Inv.init _ _, Kq.refl _ _ _, Nat.zero_le _⟩
    case round =>
      obtain ⟨k, s, rv, pv, rfl, HH, CR, FR, ERk, IV, KX, K20⟩ := hrel
      have hk20 : k ≤ 20 := K20.out
      obtain ⟨_, e0, e1, e2, e3⟩ := CR.out
      have fr := FR.out
      have hsw : w2.heap.size + 2 ≤ wr.heap.size := by have := KX.out.size; have := HSX.out; omega
      -- how it ends
      have FIN : Hid (∀ (W' : World) (rv' pv' : Value) (o : RunOut), execRun bs xs = o → OwnP 140 wr w.heap.size rv' o.reads → OwnP 143 wr w.heap.size pv' o.puts → (rv'.ownBlock = none ∨ rv'.ownBlock ≠ pv'.ownBlock) → (∀ g, rv'.ownBlock = some g → g ≠ w.heap.size ∧ g ≠ w2.heap.size) → (∀ g, pv'.ownBlock = some g → g ≠ w.heap.size ∧ g ≠ w2.heap.size) → Turned [w.heap.size, w2.heap.size] wr W' → RunPost (execRun bs xs) w.heap.size (.returned (.agg #[rv', pv', .int .i64 o.val, .int .i64 o.code])) W' ∧ Below w.heap.size w W') := by
        intro W' rv' pv' o eo h1 h2 h3 h4 h5 h6
        rw [eo]
        refine ⟨⟨rv', pv', rfl, h1.turned h6 (fun g e => by have := h4 g e; simp; omega), h2.turned h6 (fun g e => by have := h5 g e; simp; omega), h3⟩, ?_⟩
        refine BX.out.trans ((KX.out.below (B' := w.heap.size) (fun x hx => by simp at hx; omega) (by omega)).trans (h6.below (fun x hx => by simp at hx; omega) (by omega)))
      have lRd : Hid (∀ g, rv.ownBlock = some g → g ≠ w.heap.size ∧ g ≠ w2.heap.size) := fun g e => by have := (World.ownsRow.lt HH.out.reads g e).1; omega
      have lPt : Hid (∀ g, pv.ownBlock = some g → g ≠ w.heap.size ∧ g ≠ w2.heap.size) := fun g e => by have := (World.ownsRow.lt HH.out.puts g e).1; omega
      have ZR : Hid (C4 wr w.heap.size (.slice none 0 0) (.slice none 0 0) (.int .i64 0) (.int .i64 0)) := ZX.out.kq KX.out (by omega) (by simp; omega)
      have FZR : Hid (∀ o, wr.frozen? ⟨w.heap.size, o, none⟩ = false) := fun o => by rw [KX.out.frozen (by omega) (by simp; omega)]; exact FX.out o
      obtain ⟨arr, crr, hrv, _, _, _, _⟩ := HH.out.reads.open
      obtain ⟨app, cpp, hpv, _, _, _, _⟩ := HH.out.puts.open
      have HRV : Hid (rv = .slice arr s.reads.length crr) := hrv
      have HPV : Hid (pv = .slice app s.puts.length cpp) := hpv
      rw [hrv] at e0
      rw [hpv] at e1
      clear hrv hpv
      by_cases hc : s.code = 0
      · have HC : Hid (s.code = 0) := hc
        rw [hc] at e3
        clear hc
        by_cases hlt : k < xs.length
        · rcases SX.out with h | ⟨pb, po, rfl, h1⟩
          · subst h; simp at hlt
          have hpb : pb < w.heap.size := h1.1
          have AX : Hid (At4 wr pb po xs) := (h1.below BX.out).kq KX.out (by omega) (by simp; omega)
          obtain ⟨ca, cb, cc, cd⟩ := AX.out.2 k hlt
          clear h1
          obtain ⟨p, hp⟩ : ∃ p, p = xs.getD k q0 := ⟨_, rfl⟩
          have HP : Hid (p = xs.getD k q0) := hp
          rw [← hp] at ca cb cc cd
          have HOK : Hid (insOk p = true) := by show _ = _; rw [hp]; exact progOk_ins HPO.out _ (getD_mem hlt)
          have HM : Hid (p ∈ xs) := by show _ ∈ _; rw [hp]; exact getD_mem hlt
          clear hp
          obtain ⟨kd, pa, pb', pn⟩ := p
          dsimp only at ca cb cc cd
          have hki : (k : Int) < (xs.length : Int) := by omega
          obtain ⟨V, hV⟩ : ∃ V, V = wr.alloc (.cells #[.int .i64 kd, .int .i64 pa, .int .i64 pb', .int .i64 pn] 188) := ⟨_, rfl⟩
          have gV : V.heap[wr.heap.size]? = some (.cells #[.int .i64 kd, .int .i64 pa, .int .i64 pb', .int .i64 pn] 188 (0, 0)) := by rw [hV]; exact heap_new _ _
          have v0 : V.cell? ⟨wr.heap.size, 0, none⟩ = some (.int .i64 kd) := (cell_heap gV 0).trans rfl
          have v1 : V.cell? ⟨wr.heap.size, 1, none⟩ = some (.int .i64 pa) := (cell_heap gV 1).trans rfl
          have v2 : V.cell? ⟨wr.heap.size, 2, none⟩ = some (.int .i64 pb') := (cell_heap gV 2).trans rfl
          have v3 : V.cell? ⟨wr.heap.size, 3, none⟩ = some (.int .i64 pn) := (cell_heap gV 3).trans rfl
          have BV : Hid (Below wr.heap.size wr V) := by show Below _ _ _; rw [hV]; exact below_new _ _
          have HSV : Hid (V.heap.size = wr.heap.size + 1) := by show _ = _; rw [hV]; simp
          have HV : Hid (V = _) := hV
          clear hV gV
          have HHV : Hid (Held (w2.heap.size + 2) (w2.heap.size + 1) V rv pv s) := HH.out.turned (Turned.ofBelow (L := []) BV.out) (by simp) (by simp) (by simp)
          have CV : Hid (C4 V w2.heap.size rv pv (.int .i64 0) (.int .i64 s.code)) := CR.out.below BV.out
          have FV : Hid (∀ o, V.frozen? ⟨w2.heap.size, o, none⟩ = false) := fun o => by rw [BV.out.frozen (p := ⟨w2.heap.size, o, none⟩) CR.out.1]; exact FR.out o
          have KV : Hid (Kq (w2.heap.size + 2) [w2.heap.size, w2.heap.size + 1] X V) := KX.out.trans ((Turned.ofBelow (L := []) BV.out).kq (by omega) (by simp))
          go_upto_region 9 with fail
          rw [← HV.out]
          clear ca cb cc cd e0 e1 e2 e3 fr
          obtain ⟨_, e0, e1, e2, e3⟩ := CV.out
          have fr := FV.out
          rw [HRV.out] at e0
          rw [HPV.out] at e1
          rw [HC.out] at e3
          by_cases h6 : kd = 6
          · subst h6
            have ok := HOK.out
            rw [insOk_6] at ok
            simp only [Bool.and_eq_true] at ok
            obtain ⟨na, hna, rfl⟩ := regOk_nat ok.1.1
            obtain ⟨nb, hnb, rfl⟩ := regOk_nat ok.1.2
            have hn := ok.2
            simp only [lessOk, Bool.and_eq_true, decide_eq_true_eq] at hn
            obtain ⟨n, hn1, hn2⟩ : ∃ n : Nat, pn = (n : Int) ∧ n ≤ 10 := ⟨pn.toNat, by omega, by omega⟩
            subst hn1
            clear ok
            have hai : (na : Int) < 4 := by omega
            have hbi : (nb : Int) < 4 := by omega
            have rga := HHV.out.regs.2 na (by rw [HHV.out.four]; exact hna)
            have rgb := HHV.out.regs.2 nb (by rw [HHV.out.four]; exact hnb)
            rw [Nat.zero_add] at rga rgb
            have EJ : Hid (s.regs.getD na 0 < s.regs.getD nb 0 → runR bs xs k s = runR bs xs (k + n + 1) s) := fun hl => by
              have e := run_jump (bs := bs) (xs := xs) (k := k) (s := s) hlt HC.out (by rw [← HP.out]) (by rw [← HP.out]; simpa using hl)
              rw [← HP.out] at e
              simpa using e
            have EG : Hid (¬ s.regs.getD na 0 < s.regs.getD nb 0 → runR bs xs k s = runR bs xs (k + 1) s) := fun hl =>
              run_go (bs := bs) (xs := xs) (k := k) (s := s) hlt HC.out (by rw [← HP.out]) (by rw [← HP.out]; simpa using hl)
            generalize s.regs.getD na 0 = x at rga EJ EG
            generalize s.regs.getD nb 0 = y at rgb EJ EG
            go_upto_region 10 with fail
            go_quiet (fail)
            by_cases hl : x < y
            · have E' : Hid (runR bs xs (k + n + 1) s = runR bs xs 0 initR) := (EJ.out hl).symm.trans ERk.out
              go_wp2
              go_roundw
              case rel => exact ⟨k + n + 1, s, rv, pv, by go_num, HHV.out.turned (L := []) ((Turned.refl _ _).drewN _) (by simp) (by simp) (by simp), CV, FV, E', IV, KV.out.trans (Turned.kq (L' := []) ((Turned.refl _ _).drewN _) (by have := HSV.out; omega) (by simp)), by show _ ≤ _; omega⟩
              case measure => simp [intOf]; omega
            · have E' : Hid (runR bs xs (k + 1) s = runR bs xs 0 initR) := (EG.out hl).symm.trans ERk.out
              go_wp2
              go_roundw
              case rel => exact ⟨k + 1, s, rv, pv, by go_num, HHV.out.turned (L := []) ((Turned.refl _ _).drewN _) (by simp) (by simp) (by simp), CV, FV, E', IV, KV.out.trans (Turned.kq (L' := []) ((Turned.refl _ _).drewN _) (by have := HSV.out; omega) (by simp)), by show _ ≤ _; omega⟩
              case measure => simp [intOf]; omega
          · have h6' : (kd == 6) = false := by simpa using h6
            have E' : Hid (runR bs xs (k + 1) (stepR bs s (kd, pa, pb', pn)) = runR bs xs 0 initR) := by
              show _ = _
              rw [← ERk.out, run_step (bs := bs) (xs := xs) (k := k) (s := s) hlt HC.out (by rw [← HP.out]; exact h6), ← HP.out]
            have I' : Hid (Inv bs xs (stepR bs s (kd, pa, pb', pn))) := IV.out.step HC.out _ HOK.out HM.out h6
            have SBV : Hid (Sl V la bs) := ((SB.out.below BX.out).kq KX.out (fun x e => by have := HLA.out x e; simp; omega)).below BV.out
            have ST : Hid (Calls Try.prog 129 #[.slice la bs.length lc, .agg #[.slice arr s.reads.length crr, .slice app s.puts.length cpp, .int .i64 0, .int .i64 0], .slice (some ⟨w2.heap.size + 1, 0, none⟩) 4 4, .agg #[.int .i64 kd, .int .i64 pa, .int .i64 pb', .int .i64 pn]] V fun e w' => StepPost bs s (kd, pa, pb', pn) (w2.heap.size + 2) (w2.heap.size + 1) 0 V e w') := by
              have f4 := reads_few IV.out
              have p4 := puts_few IV.out
              have b1 := boxesTo_len loadsQ xs 4
              have b2 := boxesTo_len putsQ xs 4
              have h := l3Step la lc bs (w2.heap.size + 1) 4 s rv pv (kd, pa, pb', pn) 0 (w2.heap.size + 2) V SBV.out HL4.out (fun x e => by have := HLA.out x e; omega) HHV.out (by omega) (by have := HSV.out; omega) (by omega) (by omega) HOK.out h6 HC.out (IV.out.num HC.out)
              rw [HRV.out, HPV.out, HC.out] at h
              exact h
            clear SBV HOK HM
            go_wp2_with fail
            refine Calls.mono ST.out ?_
            rintro e w3 ⟨rv3, pv3, rfl, H3, K3⟩
            obtain ⟨ar3, cr3, hrv3, _, _, _, _⟩ := H3.reads.open
            obtain ⟨ap3, cp3, hpv3, _, _, _, _⟩ := H3.puts.open
            generalize stepR bs s (kd, pa, pb', pn) = s3 at H3 E' I' hrv3 hpv3 ⊢
            have KK := KV.out.trans (K3.kq (L := [w2.heap.size, w2.heap.size + 1]) (by simp))
            have K3' : Kq (w2.heap.size + 2) [w2.heap.size + 1] V w3 := K3.kq (by simp)
            have C3 : C4 w3 w2.heap.size rv pv (.int .i64 0) (.int .i64 s.code) := CV.out.kq K3' (by omega) (by simp)
            have F3 : Hid (∀ o, w3.frozen? ⟨w2.heap.size, o, none⟩ = false) := fun o => by rw [K3'.frozen (by omega) (by simp)]; exact FV.out o
            have TF : Turned [w2.heap.size] w3 ((((w3.setCell ⟨w2.heap.size, 0, none⟩ rv3).setCell ⟨w2.heap.size, 1, none⟩ pv3).setCell ⟨w2.heap.size, 2, none⟩ (.int .i64 0)).setCell ⟨w2.heap.size, 3, none⟩ (.int .i64 s3.code)) := ((((Turned.refl _ _).set (by simp) _).set (by simp) _).set (by simp) _).set (by simp) _
            have hs3 : w2.heap.size + 2 ≤ w3.heap.size := by have := K3.size; have := HSV.out; omega
            have HF : Hid (Held (w2.heap.size + 2) (w2.heap.size + 1) ((((w3.setCell ⟨w2.heap.size, 0, none⟩ rv3).setCell ⟨w2.heap.size, 1, none⟩ pv3).setCell ⟨w2.heap.size, 2, none⟩ (.int .i64 0)).setCell ⟨w2.heap.size, 3, none⟩ (.int .i64 s3.code)) rv3 pv3 s3) := H3.turned TF (by simp) (fun g e => by have := (World.ownsRow.lt H3.reads g e).1; simp; omega) (fun g e => by have := (World.ownsRow.lt H3.puts g e).1; simp; omega)
            have CF : Hid (C4 ((((w3.setCell ⟨w2.heap.size, 0, none⟩ rv3).setCell ⟨w2.heap.size, 1, none⟩ pv3).setCell ⟨w2.heap.size, 2, none⟩ (.int .i64 0)).setCell ⟨w2.heap.size, 3, none⟩ (.int .i64 s3.code)) w2.heap.size rv3 pv3 (.int .i64 0) (.int .i64 s3.code)) := C3.put4 _ _ _ _
            have FF : Hid (∀ o, ((((w3.setCell ⟨w2.heap.size, 0, none⟩ rv3).setCell ⟨w2.heap.size, 1, none⟩ pv3).setCell ⟨w2.heap.size, 2, none⟩ (.int .i64 0)).setCell ⟨w2.heap.size, 3, none⟩ (.int .i64 s3.code)).frozen? ⟨w2.heap.size, o, none⟩ = false) := fun o => by simpa using F3.out o
            have KF : Hid (Kq (w2.heap.size + 2) [w2.heap.size, w2.heap.size + 1] X ((((w3.setCell ⟨w2.heap.size, 0, none⟩ rv3).setCell ⟨w2.heap.size, 1, none⟩ pv3).setCell ⟨w2.heap.size, 2, none⟩ (.int .i64 0)).setCell ⟨w2.heap.size, 3, none⟩ (.int .i64 s3.code))) := KK.trans (TF.kq hs3 (by simp))
            have f3 := F3.out
            obtain ⟨_, g0, g1, g2, g3⟩ := C3
            clear TF KK K3 K3' H3 e0 e1 e2 e3 fr v0 v1 v2 v3
            have HRV3 : Hid (rv3 = .slice ar3 s3.reads.length cr3) := hrv3
            have HPV3 : Hid (pv3 = .slice ap3 s3.puts.length cp3) := hpv3
            rw [hrv3, hpv3] at HF CF FF KF ⊢
            clear hrv3 hpv3
            go_wp2
            go_roundw
            case rel => exact ⟨k + 1, s3, _, _, by go_num, HF, CF, FF, E', I', KF, by show _ ≤ _; omega⟩
            case measure => simp [intOf]; omega
        · have EE : Hid (execRun bs xs = ⟨s.reads, s.puts, s.regs.getD 0 0, 0⟩) := by
            show _ = _
            rw [ER.out, ← ERk.out, run_end hlt]
            unfold outR
            rw [if_pos HC.out]
          have rga := HH.out.regs.2 0 (by rw [HH.out.four]; omega)
          rw [Nat.zero_add] at rga
          have hki : ¬ (k : Int) < (xs.length : Int) := by omega
          obtain ⟨_, z0, z1, z2, z3⟩ := ZR.out
          have fz := FZR.out
          have FN : Hid (∀ W', Turned [w.heap.size, w2.heap.size] wr W' → RunPost (execRun bs xs) w.heap.size (.returned (.agg #[.slice arr s.reads.length crr, .slice app s.puts.length cpp, .int .i64 (s.regs.getD 0 0), .int .i64 0])) W' ∧ Below w.heap.size w W') := fun W' ht => by
            have := FIN.out W' rv pv _ EE.out (HH.out.reads.lower (by omega)) (HH.out.puts.lower (by omega)) HH.out.apart lRd.out lPt.out ht
            rw [← HRV.out, ← HPV.out]
            exact this
          have hnn : ¬ w.heap.size = w2.heap.size := by omega
          have hnn' : ¬ w2.heap.size = w.heap.size := by omega
          clear FIN EE
          generalize s.regs.getD 0 0 = x at rga FN
          go_wp2
          refine bodyPost_ret (v := .agg #[.slice arr s.reads.length crr, .slice app s.puts.length cpp, .int .i64 x, .int .i64 0]) (by simp [results, Try.results95, go_sem, z0, z1, z2, z3, hnn, hnn']) rfl ?_
          refine FN.out _ ?_
          iterate 5 refine Turned.set ?_ (by simp) _
          exact Turned.refl _ _
      · have EE : Hid (execRun bs xs = ⟨s.reads, [], 0, s.code⟩) := by
          show _ = _
          rw [ER.out, ← ERk.out, run_stop hc]
          unfold outR
          rw [if_neg hc]
        obtain ⟨_, z0, z1, z2, z3⟩ := ZR.out
        have fz := FZR.out
        have FN : Hid (∀ W', Turned [w.heap.size, w2.heap.size] wr W' → RunPost (execRun bs xs) w.heap.size (.returned (.agg #[.slice arr s.reads.length crr, .slice none 0 0, .int .i64 0, .int .i64 s.code])) W' ∧ Below w.heap.size w W') := fun W' ht => by
          have := FIN.out W' rv (.slice none 0 0) _ EE.out (HH.out.reads.lower (by omega)) (OwnP.nil _ _ _) (by cases rv.ownBlock with | none => exact .inl rfl | some g => exact .inr (by simp [Value.ownBlock])) lRd.out (fun g e => by cases e) ht
          rw [← HRV.out]
          exact this
        have hnn : ¬ w.heap.size = w2.heap.size := by omega
        have hnn' : ¬ w2.heap.size = w.heap.size := by omega
        have hcb : (s.code == 0) = false := by simpa using hc
        clear FIN EE
        generalize s.code = cd at e3 FN hcb hc
        by_cases hlt : k < xs.length
        · have hki : (k : Int) < (xs.length : Int) := by omega
          go_wp2
          refine bodyPost_ret (v := .agg #[.slice arr s.reads.length crr, .slice none 0 0, .int .i64 0, .int .i64 cd]) (by simp [results, Try.results95, go_sem, z0, z1, z2, z3, hnn, hnn']) rfl ?_
          refine FN.out _ ?_
          iterate 5 refine Turned.set ?_ (by simp) _
          exact Turned.refl _ _
        · have hki : ¬ (k : Int) < (xs.length : Int) := by omega
          go_wp2
          refine bodyPost_ret (v := .agg #[.slice arr s.reads.length crr, .slice none 0 0, .int .i64 0, .int .i64 cd]) (by simp [results, Try.results95, go_sem, z0, z1, z2, z3, hnn, hnn']) rfl ?_
          refine FN.out _ ?_
          iterate 5 refine Turned.set ?_ (by simp) _
          exact Turned.refl _ _
end Go.Proofs.Ytfifiobcmdmefaa.Own
