/-
  Own text: what spec.l3Step does at an instruction that puts.
-/
import Derived.Test.YtgcencilgpilaaaL3StepL
namespace Go.Proofs.Ytgcencilgpilaaa.Own
open Go.RowKit
set_option linter.unusedVariables false
set_option linter.unusedSimpArgs false

set_option maxRecDepth 100000 in
set_option maxHeartbeats 4000000 in
theorem l3StepP (la : Option Addr) (lc : Nat) (bs : List P2) (rg rc : Nat) (s : RunSt) (rv pv : Value) (p : Q4) (v : Int) (B : Nat) (w : World)
    (hb : Sl w la bs) (l4 : bs.length = 4) (hla : ∀ x, la = some x → x.block < B) (hh : Held B rg w rv pv s) (hrg : rg < B) (hB : B ≤ w.heap.size) (lx : s.reads.length ≤ 1000) (ly : s.puts.length ≤ 1000)
    (hp : insOk p = true) (h6 : p.1 = 2) (hc : s.code = 0) (hn : ∀ i, i < 4 → numOk (s.regs.getD i 0) = true) :
    Calls Try.prog 142 #[.slice la bs.length lc, .agg #[rv, pv, .int .i64 v, .int .i64 s.code], .slice (some ⟨rg, 0, none⟩) 4 rc, .agg #[.int .i64 p.1, .int .i64 p.2.1, .int .i64 p.2.2.1, .int .i64 p.2.2.2]] w fun e w' => StepPost bs s p B rg v w e w' := by
  obtain ⟨kd, pa, pb, pn⟩ := p
  dsimp only at h6 ⊢
  obtain ⟨ar, cr, hrv, slr, hcr, hmr, hbr⟩ := hh.reads.open
  obtain ⟨ap, cp, hpv, slp, hcp, hmp, hbp⟩ := hh.puts.open
  have HH : Hid (Held B rg w rv pv s) := hh
  have HRV : Hid (rv = .slice ar s.reads.length cr) := hrv
  have HPV : Hid (pv = .slice ap s.puts.length cp) := hpv
  have SB : Hid (Sl w la bs) := hb
  have HLA : Hid (∀ x, la = some x → x.block < B) := hla
  have HN : Hid (∀ i, i < 4 → numOk (s.regs.getD i 0) = true) := hn
  have HC : Hid (s.code = 0) := hc
  have HOK : Hid (insOk (kd, pa, pb, pn) = true) := hp
  have HL4 : Hid (bs.length = 4) := l4
  clear l4 hh slr slp hb hbr hbp hcr hcp hmr hmp hla hn hp
  obtain ⟨W, hW⟩ : ∃ W, W = ((w.alloc (.cells #[.slice ar s.reads.length cr, .slice ap s.puts.length cp, .int .i64 v, .int .i64 0] 27)).alloc (.cells #[.int .i64 kd, .int .i64 pa, .int .i64 pb, .int .i64 pn] 156)).alloc (.cells #[.slice none 0 0, .slice none 0 0, .int .i64 0, .int .i64 0] 27) := ⟨_, rfl⟩
  have BW : Hid (Below w.heap.size w W) := by show Below _ _ _; rw [hW]; exact (((Below.refl _ _).alloc (Nat.le_refl _) _).alloc (by simp) _).alloc (by simp; omega) _
  have HSW : Hid (W.heap.size = w.heap.size + 3) := by show _ = _; rw [hW]; simp
  have g0 : W.heap[w.heap.size]? = some (.cells #[.slice ar s.reads.length cr, .slice ap s.puts.length cp, .int .i64 v, .int .i64 0] 27 (0, 0)) := by
    rw [hW, heap_old _ _ _ (by simp; omega), heap_old _ _ _ (by simp)]; exact heap_new _ _
  have g1 : W.heap[w.heap.size + 1]? = some (.cells #[.int .i64 kd, .int .i64 pa, .int .i64 pb, .int .i64 pn] 156 (0, 0)) := by
    rw [hW, heap_old _ _ _ (by simp)]; exact heap_new2 _ _ _
  have g2 : W.heap[w.heap.size + 1 + 1]? = some (.cells #[.slice none 0 0, .slice none 0 0, .int .i64 0, .int .i64 0] 27 (0, 0)) := by
    rw [hW]
    have := heap_new ((w.alloc (.cells #[.slice ar s.reads.length cr, .slice ap s.puts.length cp, .int .i64 v, .int .i64 0] 27)).alloc (.cells #[.int .i64 kd, .int .i64 pa, .int .i64 pb, .int .i64 pn] 156)) (.cells #[.slice none 0 0, .slice none 0 0, .int .i64 0, .int .i64 0] 27)
    rw [size_new, size_new] at this
    exact this
  have MW : Hid (StepMem w.heap.size W (.slice ar s.reads.length cr) (.slice ap s.puts.length cp) v 0) :=
    ⟨(cell_heap g0 0).trans rfl, (cell_heap g0 1).trans rfl, (cell_heap g0 2).trans rfl, (cell_heap g0 3).trans rfl, fun o => frozen_heap g0 o, (cell_heap g2 0).trans rfl, (cell_heap g2 1).trans rfl, (cell_heap g2 2).trans rfl, (cell_heap g2 3).trans rfl, fun o => frozen_heap g2 o, by have := HSW.out; omega⟩
  have i0 : W.cell? ⟨w.heap.size + 1, 0, none⟩ = some (.int .i64 kd) := (cell_heap g1 0).trans rfl
  have i1 : W.cell? ⟨w.heap.size + 1, 1, none⟩ = some (.int .i64 pa) := (cell_heap g1 1).trans rfl
  have i2 : W.cell? ⟨w.heap.size + 1, 2, none⟩ = some (.int .i64 pb) := (cell_heap g1 2).trans rfl
  have i3 : W.cell? ⟨w.heap.size + 1, 3, none⟩ = some (.int .i64 pn) := (cell_heap g1 3).trans rfl
  have GI : Hid (W.heap[w.heap.size + 1]? = some (.cells #[.int .i64 kd, .int .i64 pa, .int .i64 pb, .int .i64 pn] 156 (0, 0))) := g1
  have HW : Hid (W = _) := hW
  clear hW g0 g1 g2
  have hNW : w.heap.size + 1 + 1 < W.heap.size := by have := HSW.out; omega
  have HHW : Hid (Held B rg W rv pv s) := HH.out.turned (Turned.ofBelow (L := []) BW.out) (by simp) (by simp) (by simp)
  have lR : Hid (∀ g, rv.ownBlock = some g → B ≤ g ∧ g < w.heap.size) := fun g hg => World.ownsRow.lt HH.out.reads g hg
  have lP : Hid (∀ g, pv.ownBlock = some g → B ≤ g ∧ g < w.heap.size) := fun g hg => World.ownsRow.lt HH.out.puts g hg
  have KW : Hid (Kp B rg w W) := (Turned.ofBelow (L := []) BW.out).kp hB (by simp)
  -- from where the run's own cells and what it will say alone turn
  have TAIL : Hid (∀ (w1 W' : World) (rv' pv' : Value) (s' : RunSt), Held B rg w1 rv' pv' s' → Kp B rg w w1 → (∀ g, rv'.ownBlock = some g → g ≠ w.heap.size ∧ g ≠ w.heap.size + 1 + 1) → (∀ g, pv'.ownBlock = some g → g ≠ w.heap.size ∧ g ≠ w.heap.size + 1 + 1) → Turned [w.heap.size, w.heap.size + 1 + 1] w1 W' → Held B rg W' rv' pv' s' ∧ Kp B rg w W') := by
    intro w1 W' rv' pv' s' h1 h2 h3 h4 h5
    refine ⟨h1.turned h5 (by simp; omega) (fun g e => by have := h3 g e; simp; omega) (fun g e => by have := h4 g e; simp; omega), h2.trans (h5.kp (Nat.le_trans hB h2.size) (fun x hx => ?_))⟩
    simp at hx
    omega
  have NR : Hid (∀ g, rv.ownBlock = some g → g ≠ w.heap.size ∧ g ≠ w.heap.size + 1 + 1) := fun g e => by have := lR.out g e; omega
  have NP : Hid (∀ g, pv.ownBlock = some g → g ≠ w.heap.size ∧ g ≠ w.heap.size + 1 + 1) := fun g e => by have := lP.out g e; omega
  obtain ⟨c0, c1, c2, c3, fN, y0, y1, y2, y3, fY, _⟩ := MW.out
  rw [HRV.out, HPV.out, HC.out]
  subst h6
  · -- a put
    have ok := HOK.out
    rw [insOk_2] at ok
    simp only [Bool.and_eq_true] at ok
    obtain ⟨na, hna, rfl⟩ := regOk_nat ok.1.1
    obtain ⟨nb, hnb, rfl⟩ := regOk_nat ok.1.2
    clear ok
    have hbi : (nb : Int) < 4 := by omega
    have rgb := HHW.out.regs.2 nb (by rw [HHW.out.four]; exact hnb)
    rw [Nat.zero_add] at rgb
    have ES : Hid (stepR bs s (2, (na : Int), (nb : Int), pn) = { s with puts := putP s.puts na (s.regs.getD nb 0) }) := by show _ = _; simp [stepR]
    generalize s.regs.getD nb 0 = x at rgb ES
    have PT : Hid (∀ u, Turned [] W u → Calls Try.prog 160 #[.agg #[.slice ar s.reads.length cr, .slice ap s.puts.length cp, .int .i64 v, .int .i64 0], .int .i64 na, .int .i64 x] u fun e w' => PutPost s.reads s.puts na x B rv pv v 0 u e w') := by
      intro u hu
      have hh := HHW.out.turned hu (by simp) (by simp) (by simp)
      have h := l3Put na x rv pv s.reads s.puts v 0 B u hh.reads hh.puts hh.apart (by have := hu.size; omega) ly
      rw [HRV.out, HPV.out] at h ⊢
      exact h
    go_enter Try.func142, Try.ntmps142
    go_upto_region 1 with fail
    rw [← HW.out]
    go_upto_region 7 with fail
    refine region_still_tail 8 (by kernel_rfl) (by kernel_rfl) ?_
    simp only [List.take_succ_cons, List.take_zero, List.drop_succ_cons, List.drop_zero]
    iterate 8 still_step
    refine wpStill_nil ?_
    go_wp2_with fail
    refine Calls.mono (PT.out _ (Turned.refl _ _).drew) ?_
    rintro e w2 ⟨pv2, rfl, o1, o2, ap2, gr, hnew⟩
    obtain ⟨a2, cc2, hpv2, _, _, _, _⟩ := o2.open
    have T2 : Turned pv.ownBlock.toList W w2 := Turned.trans (Turned.refl _ _).drew (Turned.ofGrown gr (fun g e => by simp [e]))
    have nmem : ∀ x, w.heap.size ≤ x → x ∉ pv.ownBlock.toList := fun x hx e => by
      rw [Option.mem_toList] at e
      have := lP.out x e
      omega
    have nrg : rg ∉ pv.ownBlock.toList := fun e => by
      rw [Option.mem_toList] at e
      have := lP.out rg e
      omega
    have hs2 : W.heap.size ≤ w2.heap.size := gr.size
    have H2 : Hid (Held B rg w2 rv pv2 { s with puts := putP s.puts na x }) := ⟨HHW.out.regs.turned T2 nrg, HHW.out.four, fun o => by rw [World.frozen?_of_block (w := W) (a := ⟨rg, o, none⟩) (T2.block rg HHW.out.regs.1 nrg)]; exact HHW.out.free o, o1, o2, ap2⟩
    have M2 := MW.out.turned T2 (nmem _ (Nat.le_refl _)) (nmem _ (by omega))
    have K2 : Hid (Kp B rg w w2) := KW.out.trans (T2.kp (by omega) (fun x e => by rw [Option.mem_toList] at e; exact .inl (lP.out x e).1))
    have tX : ∀ o, w2.cell? ⟨w.heap.size + 1, o, none⟩ = W.cell? ⟨w.heap.size + 1, o, none⟩ := fun o => World.cell?_of_block (w := W) (a := ⟨w.heap.size + 1, o, none⟩) (T2.block _ (by show w.heap.size + 1 < _; omega) (nmem (w.heap.size + 1) (by omega)))
    have j0 : w2.cell? ⟨w.heap.size + 1, 0, none⟩ = some (.int .i64 2) := (tX 0).trans i0
    have NP2 : Hid (∀ g, pv2.ownBlock = some g → g ≠ w.heap.size ∧ g ≠ w.heap.size + 1 + 1) := fun g e => by
      have h2 := World.ownsRow.lt o2 g e
      rcases hnew g e with h | h
      · have := lP.out g h; omega
      · have : W.heap.size ≤ g := h; omega
    have HPV2 : Hid (pv2 = .slice a2 (putP s.puts na x).length cc2) := hpv2
    obtain ⟨d0, d1, d2, d3, fM, e0, e1, e2, e3, fZ, _⟩ := M2
    rw [hpv2, HRV.out]
    clear o1 o2 ap2 gr hnew hpv2 T2 nmem c0 c1 c2 c3 fN y0 y1 y2 y3 fY tX i0 i1 i2 i3 rgb
    go_wp2
    refine bodyPost_ret (v := .agg #[.slice ar s.reads.length cr, .slice a2 (putP s.puts na x).length cc2, .int .i64 v, .int .i64 0]) (by simp [results, Try.results142, go_sem, e0, e1, e2, e3]) rfl ⟨rv, pv2, by rw [HRV.out, HPV2.out, ES.out, HC.out], ?_⟩
    rw [ES.out]
    refine TAIL.out w2 _ rv pv2 _ H2.out K2.out NR.out NP2.out ?_
    iterate 8 refine Turned.set ?_ (by simp) _
    exact Turned.refl _ _
end Go.Proofs.Ytgcencilgpilaaa.Own
