/-
  Own texts, bundled: SpecRun, RunB, OwnQ.
-/
import Derived.Test.YtokbakphfodabaaDoorPk6
import Derived.Test.YtokbakphfodabaaDoorPk7
import Derived.Test.YtokbakphfodabaaDoorPk1
import Derived.Test.YtokbakphfodabaaDoorPk3
import Derived.OwnWalk
namespace Go.Proofs.YtokbakphfodabaaDoor.Own
open Go.RowKit
set_option linter.unusedVariables false
set_option linter.unusedSimpArgs false

/-- What a run hands back: four cells, its lists rows of its own from B on. -/
def RunPost (o : RunOut) (B : Nat) (e : Ending) (w' : World) : Prop :=
  ∃ rv pv, e = .returned (.agg #[rv, pv, .int .i64 o.val, .int .i64 o.code]) ∧ OwnP 101 w' B rv o.reads ∧ OwnP 56 w' B pv o.puts ∧ (rv.ownBlock = none ∨ rv.ownBlock ≠ pv.ownBlock)

theorem l3Step (la : Option Addr) (lc : Nat) (bs : List P2) (rg rc : Nat) (s : RunSt) (rv pv : Value) (p : Q4) (v : Int) (B : Nat) (w : World)
    (hb : Sl w la bs) (l4 : bs.length = 4) (hla : ∀ x, la = some x → x.block < B) (hh : Held B rg w rv pv s) (hrg : rg < B) (hB : B ≤ w.heap.size) (lx : s.reads.length ≤ 1000) (ly : s.puts.length ≤ 1000)
    (hp : insOk p = true) (h6 : ¬ p.1 = 6) (hc : s.code = 0) (hn : ∀ i, i < 4 → numOk (s.regs.getD i 0) = true) :
    Calls Tryd.prog 82 #[.slice la bs.length lc, .agg #[rv, pv, .int .i64 v, .int .i64 s.code], .slice (some ⟨rg, 0, none⟩) 4 rc, .agg #[.int .i64 p.1, .int .i64 p.2.1, .int .i64 p.2.2.1, .int .i64 p.2.2.2]] w fun e w' => StepPost bs s p B rg v w e w' := by
  by_cases h1 : p.1 = 1
  · exact l3StepL la lc bs rg rc s rv pv p v B w hb l4 hla hh hrg hB lx ly hp h1 hc hn
  by_cases h2 : p.1 = 2
  · exact l3StepP la lc bs rg rc s rv pv p v B w hb l4 hla hh hrg hB lx ly hp h2 hc hn
  refine l3StepA la lc bs rg rc s rv pv p v B w hb l4 hla hh hrg hB lx ly hp ?_ hc hn
  obtain ⟨kd, a, b, n⟩ := p
  by_cases h3 : kd = 3
  · exact .inl h3
  by_cases h7 : kd = 7
  · exact .inr (.inl h7)
  by_cases h4 : kd = 4
  · exact .inr (.inr (.inl h4))
  by_cases h5 : kd = 5
  · exact .inr (.inr (.inr h5))
  rw [insOk_no a b n ⟨h1, h2, h3, h4, h5, h6, h7⟩] at hp
  cases hp

/-- Of the blocks below B none but those listed have turned. -/
structure Kq (B : Nat) (L : List Nat) (w w' : World) : Prop where
  os : w'.os = w.os
  tape : w'.tape = w.tape
  output : w'.output = w.output
  size : w.heap.size ≤ w'.heap.size
  block : ∀ k, k < B → k ∉ L → w'.heap[k]? = w.heap[k]?
theorem Kq.refl (B : Nat) (L : List Nat) (w : World) : Kq B L w w := ⟨rfl, rfl, rfl, Nat.le_refl _, fun _ _ _ => rfl⟩
theorem Kq.trans {B : Nat} {L : List Nat} {a b c : World} (h : Kq B L a b) (k : Kq B L b c) : Kq B L a c :=
  ⟨k.os.trans h.os, k.tape.trans h.tape, k.output.trans h.output, Nat.le_trans h.size k.size, fun i hi hn => (k.block i hi hn).trans (h.block i hi hn)⟩
theorem Kp.kq {B rg : Nat} {L : List Nat} {w w' : World} (h : Kp B rg w w') (hr : rg ∈ L) : Kq B L w w' := ⟨h.os, h.tape, h.output, h.size, fun k hk hn => h.block k hk (fun e => hn (e ▸ hr))⟩
theorem Turned.kq {B : Nat} {L L' : List Nat} {w w' : World} (h : Turned L' w w') (hB : B ≤ w.heap.size) (hL : ∀ x, x ∈ L' → x ∈ L ∨ B ≤ x) : Kq B L w w' :=
  ⟨h.os, h.tape, h.output, h.size, fun k hk hn => h.block k (by omega) (fun e => by rcases hL k e with h | h; exact hn h; omega)⟩
theorem Kq.below {B B' : Nat} {L : List Nat} {w w' : World} (h : Kq B L w w') (hL : ∀ x, x ∈ L → B' ≤ x) (hB : B' ≤ B) : Below B' w w' :=
  ⟨h.os, h.tape, h.output, h.size, fun k hk => h.block k (by omega) (fun e => by have := hL k e; omega)⟩
theorem Kq.cell {B b : Nat} {L : List Nat} {w w' : World} (h : Kq B L w w') (hb : b < B) (hn : b ∉ L) (o : Nat) : w'.cell? ⟨b, o, none⟩ = w.cell? ⟨b, o, none⟩ :=
  World.cell?_of_block (w := w) (a := ⟨b, o, none⟩) (h.block b hb hn)
theorem Kq.frozen {B b : Nat} {L : List Nat} {w w' : World} (h : Kq B L w w') (hb : b < B) (hn : b ∉ L) (o : Nat) : w'.frozen? ⟨b, o, none⟩ = w.frozen? ⟨b, o, none⟩ :=
  World.frozen?_of_block (w := w) (a := ⟨b, o, none⟩) (h.block b hb hn)
theorem C4.kq {B b : Nat} {L : List Nat} {w w' : World} {x0 x1 x2 x3 : Value} (h : C4 w b x0 x1 x2 x3) (k : Kq B L w w') (hb : b < B) (hn : b ∉ L) : C4 w' b x0 x1 x2 x3 := by
  refine ⟨Nat.lt_of_lt_of_le h.1 k.size, ?_⟩
  rw [k.cell hb hn, k.cell hb hn, k.cell hb hn, k.cell hb hn]; exact h.2
theorem C4.put4 {w : World} {b : Nat} {x0 x1 x2 x3 : Value} (h : C4 w b x0 x1 x2 x3) (y0 y1 y2 y3 : Value) :
    C4 ((((w.setCell ⟨b, 0, none⟩ y0).setCell ⟨b, 1, none⟩ y1).setCell ⟨b, 2, none⟩ y2).setCell ⟨b, 3, none⟩ y3) b y0 y1 y2 y3 := by
  obtain ⟨h0, c0, c1, c2, c3⟩ := h
  refine ⟨by simpa [World.setCell] using h0, ?_, ?_, ?_, ?_⟩
  · rw [setCell_cell_other _ _ _ _ _ (by omega), setCell_cell_other _ _ _ _ _ (by omega), setCell_cell_other _ _ _ _ _ (by omega)]
    exact setCell_cell_same _ _ _ _ _ c0
  · rw [setCell_cell_other _ _ _ _ _ (by omega), setCell_cell_other _ _ _ _ _ (by omega)]
    exact setCell_cell_same _ _ _ _ _ (by rw [setCell_cell_other _ _ _ _ _ (by omega)]; exact c1)
  · rw [setCell_cell_other _ _ _ _ _ (by omega)]
    exact setCell_cell_same _ _ _ _ _ (by rw [setCell_cell_other _ _ _ _ _ (by omega), setCell_cell_other _ _ _ _ _ (by omega)]; exact c2)
  · exact setCell_cell_same _ _ _ _ _ (by rw [setCell_cell_other _ _ _ _ _ (by omega), setCell_cell_other _ _ _ _ _ (by omega), setCell_cell_other _ _ _ _ _ (by omega)]; exact c3)

theorem Sl.kq {B : Nat} {L : List Nat} {w w' : World} {a : Option Addr} {xs : List P2} (h : Sl w a xs) (k : Kq B L w w') (hb : ∀ x, a = some x → x.block < B ∧ x.block ∉ L) : Sl w' a xs := by
  rcases h with h | ⟨b, off, rfl, h⟩
  · exact .inl h
  · obtain ⟨h1, h2⟩ := hb _ rfl
    exact .inr ⟨b, off, rfl, Nat.lt_of_lt_of_le h.1 k.size, fun i hi => by rw [k.cell h1 h2, k.cell h1 h2]; exact h.2 i hi⟩
theorem At4.kq {B b off : Nat} {L : List Nat} {w w' : World} {xs : List Q4} (h : At4 w b off xs) (k : Kq B L w w') (hb : b < B) (hn : b ∉ L) : At4 w' b off xs :=
  h.congr (Nat.lt_of_lt_of_le h.1 k.size) (fun o => k.cell hb hn o)

theorem mkRegs (w : World) : (Instr.makeSlice 105 (.int .i64 4) (.int .i64 4)).run Tryd.prog w = .ok (.slice (some ⟨w.heap.size, 0, none⟩) 4 4) (w.alloc (.cells #[.int .i64 0, .int .i64 0, .int .i64 0, .int .i64 0] 3)) := by kernel_rfl

set_option maxRecDepth 100000 in
set_option maxHeartbeats 4000000 in
theorem specRun (la pa : Option Addr) (lc pc : Nat) (bs : List P2) (xs : List Q4) (w : World) (hb : Sl w la bs) (hx : Sl4 w pa xs) (l1 : bs.length ≤ 2 ^ 40) (l2 : xs.length ≤ 2 ^ 40) :
    Calls Tryd.prog 60 #[.slice la bs.length lc, .slice pa xs.length pc] w fun e w' => RunPost (execRun bs xs) w.heap.size e w' ∧ Below w.heap.size w w' := by
  have SB : Hid (Sl w la bs) := hb
  have SX : Hid (Sl4 w pa xs) := hx
  clear hb hx
  obtain ⟨W, hW⟩ : ∃ W, W = w.alloc (.cells #[.slice none 0 0, .slice none 0 0, .int .i64 0, .int .i64 0] 32) := ⟨_, rfl⟩
  have BW : Hid (Below w.heap.size w W) := by show Below _ _ _; rw [hW]; exact below_new _ _
  have HSW : Hid (W.heap.size = w.heap.size + 1) := by show _ = _; rw [hW]; simp
  have Z0 : Hid (C4 W w.heap.size (.slice none 0 0) (.slice none 0 0) (.int .i64 0) (.int .i64 0)) := by show C4 _ _ _ _ _ _; rw [hW]; exact C4.new _ _ _ _ _ _
  have FZ : Hid (∀ o, W.frozen? ⟨w.heap.size, o, none⟩ = false) := by show ∀ o, _; rw [hW]; exact fun o => frozen_heap (heap_new _ _) o
  have HW : Hid (W = _) := hW
  clear hW
  cases hB : boxOk bs with
  | false =>
    have EF : Hid (execRun bs xs = ⟨[], [], 0, 3⟩) := execRun_form (by simp [hB])
    obtain ⟨_, z0, z1, z2, z3⟩ := Z0.out
    have fz := FZ.out
    go_enter Tryd.func60, Tryd.ntmps60
    go_upto_region 1 with fail
    rw [← HW.out]
    go_wp2_with fail
    refine (specOk la lc bs W (SB.out.below BW.out) l1).mono ?_
    rintro e w1 ⟨rfl, hw⟩
    rw [hw, hB]
    clear hw
    go_wp2
    refine bodyPost_ret (v := .agg #[.slice none 0 0, .slice none 0 0, .int .i64 0, .int .i64 3]) (by simp [results, Tryd.results60, go_sem, z0, z1, z2, z3]) rfl ?_
    rw [EF.out]
    refine ⟨⟨_, _, rfl, OwnP.nil _ _ _, OwnP.nil _ _ _, .inl rfl⟩, ?_⟩
    exact (((BW.out.setCell (Nat.le_refl _) _).setCell (Nat.le_refl _) _).setCell (Nat.le_refl _) _).setCell (Nat.le_refl _) _
  | true =>
  cases hP : progOk xs with
  | false =>
    have EF : Hid (execRun bs xs = ⟨[], [], 0, 3⟩) := execRun_form (by simp [hP])
    go_enter Tryd.func60, Tryd.ntmps60
    go_upto_region 1 with fail
    rw [← HW.out]
    go_wp2_with fail
    refine (specOk la lc bs W (SB.out.below BW.out) l1).mono ?_
    rintro e w1 ⟨rfl, hw⟩
    rw [hw, hB]
    clear hw
    go_wp2_with fail
    refine (specProgOk pa pc xs W (SX.out.below BW.out) l2).mono ?_
    rintro e w2 ⟨rfl, b2⟩
    rw [hP]
    have B2 : Hid (Below w.heap.size w w2) := BW.out.trans (b2.mono BW.out.size)
    obtain ⟨_, z0, z1, z2, z3⟩ := Z0.out.below b2
    have fz : ∀ o, w2.frozen? ⟨w.heap.size, o, none⟩ = false := fun o => by rw [b2.frozen (p := ⟨w.heap.size, o, none⟩) Z0.out.1]; exact FZ.out o
    clear b2
    go_wp2
    refine bodyPost_ret (v := .agg #[.slice none 0 0, .slice none 0 0, .int .i64 0, .int .i64 3]) (by simp [results, Tryd.results60, go_sem, z0, z1, z2, z3]) rfl ?_
    rw [EF.out]
    refine ⟨⟨_, _, rfl, OwnP.nil _ _ _, OwnP.nil _ _ _, .inl rfl⟩, ?_⟩
    exact (((B2.out.setCell (Nat.le_refl _) _).setCell (Nat.le_refl _) _).setCell (Nat.le_refl _) _).setCell (Nat.le_refl _) _
  | true =>
    have ER : Hid (execRun bs xs = outR (runR bs xs 0 initR)) := execRun_is hB hP
    have HBO : Hid (boxOk bs = true) := hB
    have HPO : Hid (progOk xs = true) := hP
    have HL4 : Hid (bs.length = 4) := boxOk_len hB
    have HLA : Hid (∀ x, la = some x → x.block < w.heap.size) := by
      intro x e
      rcases SB.out with h | ⟨b, off, e', h⟩
      · have := HL4.out; rw [h] at this; simp at this
      · rw [e] at e'; injection e' with e'; rw [e']; exact h.1
    have HX10 : Hid (xs.length ≤ 10) := by simp only [progOk, Bool.and_eq_true, decide_eq_true_eq] at hP; exact hP.1
    go_enter Tryd.func60, Tryd.ntmps60
    go_upto_region 1 with fail
    rw [← HW.out]
    go_wp2_with fail
    refine (specOk la lc bs W (SB.out.below BW.out) l1).mono ?_
    rintro e w1 ⟨rfl, hw⟩
    rw [hw, hB]
    clear hw
    go_wp2_with fail
    refine (specProgOk pa pc xs W (SX.out.below BW.out) l2).mono ?_
    rintro e w2 ⟨rfl, b2⟩
    rw [hP]
    have B2 : Hid (Below w.heap.size w w2) := BW.out.trans (b2.mono BW.out.size)
    have Z2 : Hid (C4 w2 w.heap.size (.slice none 0 0) (.slice none 0 0) (.int .i64 0) (.int .i64 0)) := Z0.out.below b2
    have F2 : Hid (∀ o, w2.frozen? ⟨w.heap.size, o, none⟩ = false) := fun o => by rw [b2.frozen (p := ⟨w.heap.size, o, none⟩) Z0.out.1]; exact FZ.out o
    clear b2 hB hP
    obtain ⟨X, hX⟩ : ∃ X, X = (w2.alloc (.cells #[.slice none 0 0, .slice none 0 0, .int .i64 0, .int .i64 0] 32)).alloc (.cells #[.int .i64 0, .int .i64 0, .int .i64 0, .int .i64 0] 3) := ⟨_, rfl⟩
    have hmk := mkRegs
    go_upto_region 5 with fail
    rw [← hX]
    have gr0 : X.heap[w2.heap.size]? = some (.cells #[.slice none 0 0, .slice none 0 0, .int .i64 0, .int .i64 0] 32 (0, 0)) := by rw [hX]; exact heap_new1 _ _ _
    have gr1 : X.heap[w2.heap.size + 1]? = some (.cells #[.int .i64 0, .int .i64 0, .int .i64 0, .int .i64 0] 3 (0, 0)) := by rw [hX]; exact heap_new2 _ _ _
    have hsX : X.heap.size = w2.heap.size + 2 := by rw [hX]; simp
    have BX2 : Below w2.heap.size w2 X := by rw [hX]; exact ((Below.refl _ _).alloc (Nat.le_refl _) _).alloc (by simp) _
    have BX : Hid (Below w.heap.size w X) := B2.out.trans (BX2.mono B2.out.size)
    have ZX : Hid (C4 X w.heap.size (.slice none 0 0) (.slice none 0 0) (.int .i64 0) (.int .i64 0)) := Z2.out.below BX2
    have FX : Hid (∀ o, X.frozen? ⟨w.heap.size, o, none⟩ = false) := fun o => by rw [BX2.frozen (p := ⟨w.heap.size, o, none⟩) Z2.out.1]; exact F2.out o
    have CX : Hid (C4 X w2.heap.size (.slice none 0 0) (.slice none 0 0) (.int .i64 0) (.int .i64 0)) := ⟨by omega, (cell_heap gr0 0).trans rfl, (cell_heap gr0 1).trans rfl, (cell_heap gr0 2).trans rfl, (cell_heap gr0 3).trans rfl⟩
    have HX0 : Hid (Held (w2.heap.size + 2) (w2.heap.size + 1) X (.slice none 0 0) (.slice none 0 0) initR) := by
      refine ⟨⟨by omega, fun i hi => ?_⟩, rfl, fun o => frozen_heap gr1 o, OwnP.nil _ _ _, OwnP.nil _ _ _, .inl rfl⟩
      have hi' : i < 4 := hi
      have : i = 0 ∨ i = 1 ∨ i = 2 ∨ i = 3 := by omega
      rcases this with rfl | rfl | rfl | rfl <;> exact (cell_heap gr1 _).trans rfl
    have FR0 : Hid (∀ o, X.frozen? ⟨w2.heap.size, o, none⟩ = false) := fun o => frozen_heap gr0 o
    have hNN : w.heap.size < w2.heap.size := Z2.out.1
    have HSX : Hid (X.heap.size = w2.heap.size + 2) := hsX
    have l2' : xs.length ≤ 10 := HX10.out
    clear hX gr0 gr1 BX2 hmk hsX
    go_wp2_with fail
    go_loopw [7, 8] (fun i p wr => ∃ (k : Nat) (s : RunSt) (rv pv : Value), i = .int .i64 k ∧ Hid (Held (w2.heap.size + 2) (w2.heap.size + 1) wr rv pv s) ∧ Hid (C4 wr w2.heap.size rv pv (.int .i64 0) (.int .i64 s.code)) ∧ Hid (∀ o, wr.frozen? ⟨w2.heap.size, o, none⟩ = false) ∧ Hid (runR bs xs k s = runR bs xs 0 initR) ∧ Hid (Inv bs xs s) ∧ Hid (Kq (w2.heap.size + 2) [w2.heap.size, w2.heap.size + 1] X wr) ∧ Hid (k ≤ 20)) (fun i _ _ => xs.length - (intOf i).toNat)
    case atStart => exact ⟨0, initR, _, _, rfl, HX0, CX, FR0, rfl, Inv.init _ _, Kq.refl _ _ _, Nat.zero_le _⟩
    case round =>
      obtain ⟨k, s, rv, pv, rfl, HH, CR, FR, ERk, IV, KX, K20⟩ := hrel
      have hk20 : k ≤ 20 := K20.out
      obtain ⟨_, e0, e1, e2, e3⟩ := CR.out
      have fr := FR.out
      have hsw : w2.heap.size + 2 ≤ wr.heap.size := by have := KX.out.size; have := HSX.out; omega
      -- how it ends
      have FIN : Hid (∀ (W' : World) (rv' pv' : Value) (o : RunOut), execRun bs xs = o → OwnP 101 wr w.heap.size rv' o.reads → OwnP 56 wr w.heap.size pv' o.puts → (rv'.ownBlock = none ∨ rv'.ownBlock ≠ pv'.ownBlock) → (∀ g, rv'.ownBlock = some g → g ≠ w.heap.size ∧ g ≠ w2.heap.size) → (∀ g, pv'.ownBlock = some g → g ≠ w.heap.size ∧ g ≠ w2.heap.size) → Turned [w.heap.size, w2.heap.size] wr W' → RunPost (execRun bs xs) w.heap.size (.returned (.agg #[rv', pv', .int .i64 o.val, .int .i64 o.code])) W' ∧ Below w.heap.size w W') := by
        intro W' rv' pv' o eo h1 h2 h3 h4 h5 h6
        rw [eo]
        refine ⟨⟨rv', pv', rfl, h1.turned h6 (fun g e => by have := h4 g e; simp; omega), h2.turned h6 (fun g e => by have := h5 g e; simp; omega), h3⟩, ?_⟩
        refine BX.out.trans ((KX.out.below (B' := w.heap.size) (fun x hx => by simp at hx; omega) (by omega)).trans (h6.below (fun x hx => by simp at hx; omega) (by omega)))
      have lRd : Hid (∀ g, rv.ownBlock = some g → g ≠ w.heap.size ∧ g ≠ w2.heap.size) := fun g e => by have := (World.ownsRow.lt HH.out.reads g e).1; omega
      have lPt : Hid (∀ g, pv.ownBlock = some g → g ≠ w.heap.size ∧ g ≠ w2.heap.size) := fun g e => by have := (World.ownsRow.lt HH.out.puts g e).1; omega
      have ZR : Hid (C4 wr w.heap.size (.slice none 0 0) (.slice none 0 0) (.int .i64 0) (.int .i64 0)) := ZX.out.kq KX.out (by omega) (by simp; omega)
      have FZR : Hid (∀ o, wr.frozen? ⟨w.heap.size, o, none⟩ = false) := fun o => by rw [KX.out.frozen (by omega) (by simp; omega)]; exact FX.out o
      obtain ⟨arr, crr, hrv, _, _, _, _⟩ := HH.out.reads.open
      obtain ⟨app, cpp, hpv, _, _, _, _⟩ := HH.out.puts.open
      have HRV : Hid (rv = .slice arr s.reads.length crr) := hrv
      have HPV : Hid (pv = .slice app s.puts.length cpp) := hpv
      rw [hrv] at e0
      rw [hpv] at e1
      clear hrv hpv
      by_cases hc : s.code = 0
      · have HC : Hid (s.code = 0) := hc
        rw [hc] at e3
        clear hc
        by_cases hlt : k < xs.length
        · rcases SX.out with h | ⟨pb, po, rfl, h1⟩
          · subst h; simp at hlt
          have hpb : pb < w.heap.size := h1.1
          have AX : Hid (At4 wr pb po xs) := (h1.below BX.out).kq KX.out (by omega) (by simp; omega)
          obtain ⟨ca, cb, cc, cd⟩ := AX.out.2 k hlt
          clear h1
          obtain ⟨p, hp⟩ : ∃ p, p = xs.getD k q0 := ⟨_, rfl⟩
          have HP : Hid (p = xs.getD k q0) := hp
          rw [← hp] at ca cb cc cd
          have HOK : Hid (insOk p = true) := by show _ = _; rw [hp]; exact progOk_ins HPO.out _ (getD_mem hlt)
          have HM : Hid (p ∈ xs) := by show _ ∈ _; rw [hp]; exact getD_mem hlt
          clear hp
          obtain ⟨kd, pa, pb', pn⟩ := p
          dsimp only at ca cb cc cd
          have hki : (k : Int) < (xs.length : Int) := by omega
          obtain ⟨V, hV⟩ : ∃ V, V = wr.alloc (.cells #[.int .i64 kd, .int .i64 pa, .int .i64 pb', .int .i64 pn] 142) := ⟨_, rfl⟩
          have gV : V.heap[wr.heap.size]? = some (.cells #[.int .i64 kd, .int .i64 pa, .int .i64 pb', .int .i64 pn] 142 (0, 0)) := by rw [hV]; exact heap_new _ _
          have v0 : V.cell? ⟨wr.heap.size, 0, none⟩ = some (.int .i64 kd) := (cell_heap gV 0).trans rfl
          have v1 : V.cell? ⟨wr.heap.size, 1, none⟩ = some (.int .i64 pa) := (cell_heap gV 1).trans rfl
          have v2 : V.cell? ⟨wr.heap.size, 2, none⟩ = some (.int .i64 pb') := (cell_heap gV 2).trans rfl
          have v3 : V.cell? ⟨wr.heap.size, 3, none⟩ = some (.int .i64 pn) := (cell_heap gV 3).trans rfl
          have BV : Hid (Below wr.heap.size wr V) := by show Below _ _ _; rw [hV]; exact below_new _ _
          have HSV : Hid (V.heap.size = wr.heap.size + 1) := by show _ = _; rw [hV]; simp
          have HV : Hid (V = _) := hV
          clear hV gV
          have HHV : Hid (Held (w2.heap.size + 2) (w2.heap.size + 1) V rv pv s) := HH.out.turned (Turned.ofBelow (L := []) BV.out) (by simp) (by simp) (by simp)
          have CV : Hid (C4 V w2.heap.size rv pv (.int .i64 0) (.int .i64 s.code)) := CR.out.below BV.out
          have FV : Hid (∀ o, V.frozen? ⟨w2.heap.size, o, none⟩ = false) := fun o => by rw [BV.out.frozen (p := ⟨w2.heap.size, o, none⟩) CR.out.1]; exact FR.out o
          have KV : Hid (Kq (w2.heap.size + 2) [w2.heap.size, w2.heap.size + 1] X V) := KX.out.trans ((Turned.ofBelow (L := []) BV.out).kq (by omega) (by simp))
          go_upto_region 9 with fail
          rw [← HV.out]
          clear ca cb cc cd e0 e1 e2 e3 fr
          obtain ⟨_, e0, e1, e2, e3⟩ := CV.out
          have fr := FV.out
          rw [HRV.out] at e0
          rw [HPV.out] at e1
          rw [HC.out] at e3
          by_cases h6 : kd = 6
          · subst h6
            have ok := HOK.out
            rw [insOk_6] at ok
            simp only [Bool.and_eq_true] at ok
            obtain ⟨na, hna, rfl⟩ := regOk_nat ok.1.1
            obtain ⟨nb, hnb, rfl⟩ := regOk_nat ok.1.2
            have hn := ok.2
            simp only [lessOk, Bool.and_eq_true, decide_eq_true_eq] at hn
            obtain ⟨n, hn1, hn2⟩ : ∃ n : Nat, pn = (n : Int) ∧ n ≤ 10 := ⟨pn.toNat, by omega, by omega⟩
            subst hn1
            clear ok
            have hai : (na : Int) < 4 := by omega
            have hbi : (nb : Int) < 4 := by omega
            have rga := HHV.out.regs.2 na (by rw [HHV.out.four]; exact hna)
            have rgb := HHV.out.regs.2 nb (by rw [HHV.out.four]; exact hnb)
            rw [Nat.zero_add] at rga rgb
            have EJ : Hid (s.regs.getD na 0 < s.regs.getD nb 0 → runR bs xs k s = runR bs xs (k + n + 1) s) := fun hl => by
              have e := run_jump (bs := bs) (xs := xs) (k := k) (s := s) hlt HC.out (by rw [← HP.out]) (by rw [← HP.out]; simpa using hl)
              rw [← HP.out] at e
              simpa using e
            have EG : Hid (¬ s.regs.getD na 0 < s.regs.getD nb 0 → runR bs xs k s = runR bs xs (k + 1) s) := fun hl =>
              run_go (bs := bs) (xs := xs) (k := k) (s := s) hlt HC.out (by rw [← HP.out]) (by rw [← HP.out]; simpa using hl)
            generalize s.regs.getD na 0 = x at rga EJ EG
            generalize s.regs.getD nb 0 = y at rgb EJ EG
            go_upto_region 10 with fail
            go_quiet (fail)
            by_cases hl : x < y
            · have E' : Hid (runR bs xs (k + n + 1) s = runR bs xs 0 initR) := (EJ.out hl).symm.trans ERk.out
              go_wp2
              go_roundw
              case rel => exact ⟨k + n + 1, s, rv, pv, by go_num, HHV.out.turned (L := []) ((Turned.refl _ _).drewN _) (by simp) (by simp) (by simp), CV, FV, E', IV, KV.out.trans (Turned.kq (L' := []) ((Turned.refl _ _).drewN _) (by have := HSV.out; omega) (by simp)), by show _ ≤ _; omega⟩
              case measure => simp [intOf]; omega
            · have E' : Hid (runR bs xs (k + 1) s = runR bs xs 0 initR) := (EG.out hl).symm.trans ERk.out
              go_wp2
              go_roundw
              case rel => exact ⟨k + 1, s, rv, pv, by go_num, HHV.out.turned (L := []) ((Turned.refl _ _).drewN _) (by simp) (by simp) (by simp), CV, FV, E', IV, KV.out.trans (Turned.kq (L' := []) ((Turned.refl _ _).drewN _) (by have := HSV.out; omega) (by simp)), by show _ ≤ _; omega⟩
              case measure => simp [intOf]; omega
          · have h6' : (kd == 6) = false := by simpa using h6
            have E' : Hid (runR bs xs (k + 1) (stepR bs s (kd, pa, pb', pn)) = runR bs xs 0 initR) := by
              show _ = _
              rw [← ERk.out, run_step (bs := bs) (xs := xs) (k := k) (s := s) hlt HC.out (by rw [← HP.out]; exact h6), ← HP.out]
            have I' : Hid (Inv bs xs (stepR bs s (kd, pa, pb', pn))) := IV.out.step HC.out _ HOK.out HM.out h6
            have SBV : Hid (Sl V la bs) := ((SB.out.below BX.out).kq KX.out (fun x e => by have := HLA.out x e; simp; omega)).below BV.out
            have ST : Hid (Calls Tryd.prog 82 #[.slice la bs.length lc, .agg #[.slice arr s.reads.length crr, .slice app s.puts.length cpp, .int .i64 0, .int .i64 0], .slice (some ⟨w2.heap.size + 1, 0, none⟩) 4 4, .agg #[.int .i64 kd, .int .i64 pa, .int .i64 pb', .int .i64 pn]] V fun e w' => StepPost bs s (kd, pa, pb', pn) (w2.heap.size + 2) (w2.heap.size + 1) 0 V e w') := by
              have f4 := reads_few IV.out
              have p4 := puts_few IV.out
              have b1 := boxesTo_len loadsQ xs 4
              have b2 := boxesTo_len putsQ xs 4
              have h := l3Step la lc bs (w2.heap.size + 1) 4 s rv pv (kd, pa, pb', pn) 0 (w2.heap.size + 2) V SBV.out HL4.out (fun x e => by have := HLA.out x e; omega) HHV.out (by omega) (by have := HSV.out; omega) (by omega) (by omega) HOK.out h6 HC.out (IV.out.num HC.out)
              rw [HRV.out, HPV.out, HC.out] at h
              exact h
            clear SBV HOK HM
            go_wp2_with fail
            refine Calls.mono ST.out ?_
            rintro e w3 ⟨rv3, pv3, rfl, H3, K3⟩
            obtain ⟨ar3, cr3, hrv3, _, _, _, _⟩ := H3.reads.open
            obtain ⟨ap3, cp3, hpv3, _, _, _, _⟩ := H3.puts.open
            generalize stepR bs s (kd, pa, pb', pn) = s3 at H3 E' I' hrv3 hpv3 ⊢
            have KK := KV.out.trans (K3.kq (L := [w2.heap.size, w2.heap.size + 1]) (by simp))
            have K3' : Kq (w2.heap.size + 2) [w2.heap.size + 1] V w3 := K3.kq (by simp)
            have C3 : C4 w3 w2.heap.size rv pv (.int .i64 0) (.int .i64 s.code) := CV.out.kq K3' (by omega) (by simp)
            have F3 : Hid (∀ o, w3.frozen? ⟨w2.heap.size, o, none⟩ = false) := fun o => by rw [K3'.frozen (by omega) (by simp)]; exact FV.out o
            have TF : Turned [w2.heap.size] w3 ((((w3.setCell ⟨w2.heap.size, 0, none⟩ rv3).setCell ⟨w2.heap.size, 1, none⟩ pv3).setCell ⟨w2.heap.size, 2, none⟩ (.int .i64 0)).setCell ⟨w2.heap.size, 3, none⟩ (.int .i64 s3.code)) := ((((Turned.refl _ _).set (by simp) _).set (by simp) _).set (by simp) _).set (by simp) _
            have hs3 : w2.heap.size + 2 ≤ w3.heap.size := by have := K3.size; have := HSV.out; omega
            have HF : Hid (Held (w2.heap.size + 2) (w2.heap.size + 1) ((((w3.setCell ⟨w2.heap.size, 0, none⟩ rv3).setCell ⟨w2.heap.size, 1, none⟩ pv3).setCell ⟨w2.heap.size, 2, none⟩ (.int .i64 0)).setCell ⟨w2.heap.size, 3, none⟩ (.int .i64 s3.code)) rv3 pv3 s3) := H3.turned TF (by simp) (fun g e => by have := (World.ownsRow.lt H3.reads g e).1; simp; omega) (fun g e => by have := (World.ownsRow.lt H3.puts g e).1; simp; omega)
            have CF : Hid (C4 ((((w3.setCell ⟨w2.heap.size, 0, none⟩ rv3).setCell ⟨w2.heap.size, 1, none⟩ pv3).setCell ⟨w2.heap.size, 2, none⟩ (.int .i64 0)).setCell ⟨w2.heap.size, 3, none⟩ (.int .i64 s3.code)) w2.heap.size rv3 pv3 (.int .i64 0) (.int .i64 s3.code)) := C3.put4 _ _ _ _
            have FF : Hid (∀ o, ((((w3.setCell ⟨w2.heap.size, 0, none⟩ rv3).setCell ⟨w2.heap.size, 1, none⟩ pv3).setCell ⟨w2.heap.size, 2, none⟩ (.int .i64 0)).setCell ⟨w2.heap.size, 3, none⟩ (.int .i64 s3.code)).frozen? ⟨w2.heap.size, o, none⟩ = false) := fun o => by simpa using F3.out o
            have KF : Hid (Kq (w2.heap.size + 2) [w2.heap.size, w2.heap.size + 1] X ((((w3.setCell ⟨w2.heap.size, 0, none⟩ rv3).setCell ⟨w2.heap.size, 1, none⟩ pv3).setCell ⟨w2.heap.size, 2, none⟩ (.int .i64 0)).setCell ⟨w2.heap.size, 3, none⟩ (.int .i64 s3.code))) := KK.trans (TF.kq hs3 (by simp))
            have f3 := F3.out
            obtain ⟨_, g0, g1, g2, g3⟩ := C3
            clear TF KK K3 K3' H3 e0 e1 e2 e3 fr v0 v1 v2 v3
            have HRV3 : Hid (rv3 = .slice ar3 s3.reads.length cr3) := hrv3
            have HPV3 : Hid (pv3 = .slice ap3 s3.puts.length cp3) := hpv3
            rw [hrv3, hpv3] at HF CF FF KF ⊢
            clear hrv3 hpv3
            go_wp2
            go_roundw
            case rel => exact ⟨k + 1, s3, _, _, by go_num, HF, CF, FF, E', I', KF, by show _ ≤ _; omega⟩
            case measure => simp [intOf]; omega
        · have EE : Hid (execRun bs xs = ⟨s.reads, s.puts, s.regs.getD 0 0, 0⟩) := by
            show _ = _
            rw [ER.out, ← ERk.out, run_end hlt]
            unfold outR
            rw [if_pos HC.out]
          have rga := HH.out.regs.2 0 (by rw [HH.out.four]; omega)
          rw [Nat.zero_add] at rga
          have hki : ¬ (k : Int) < (xs.length : Int) := by omega
          obtain ⟨_, z0, z1, z2, z3⟩ := ZR.out
          have fz := FZR.out
          have FN : Hid (∀ W', Turned [w.heap.size, w2.heap.size] wr W' → RunPost (execRun bs xs) w.heap.size (.returned (.agg #[.slice arr s.reads.length crr, .slice app s.puts.length cpp, .int .i64 (s.regs.getD 0 0), .int .i64 0])) W' ∧ Below w.heap.size w W') := fun W' ht => by
            have := FIN.out W' rv pv _ EE.out (HH.out.reads.lower (by omega)) (HH.out.puts.lower (by omega)) HH.out.apart lRd.out lPt.out ht
            rw [← HRV.out, ← HPV.out]
            exact this
          have hnn : ¬ w.heap.size = w2.heap.size := by omega
          have hnn' : ¬ w2.heap.size = w.heap.size := by omega
          clear FIN EE
          generalize s.regs.getD 0 0 = x at rga FN
          go_wp2
          refine bodyPost_ret (v := .agg #[.slice arr s.reads.length crr, .slice app s.puts.length cpp, .int .i64 x, .int .i64 0]) (by simp [results, Tryd.results60, go_sem, z0, z1, z2, z3, hnn, hnn']) rfl ?_
          refine FN.out _ ?_
          iterate 5 refine Turned.set ?_ (by simp) _
          exact Turned.refl _ _
      · have EE : Hid (execRun bs xs = ⟨s.reads, [], 0, s.code⟩) := by
          show _ = _
          rw [ER.out, ← ERk.out, run_stop hc]
          unfold outR
          rw [if_neg hc]
        obtain ⟨_, z0, z1, z2, z3⟩ := ZR.out
        have fz := FZR.out
        have FN : Hid (∀ W', Turned [w.heap.size, w2.heap.size] wr W' → RunPost (execRun bs xs) w.heap.size (.returned (.agg #[.slice arr s.reads.length crr, .slice none 0 0, .int .i64 0, .int .i64 s.code])) W' ∧ Below w.heap.size w W') := fun W' ht => by
          have := FIN.out W' rv (.slice none 0 0) _ EE.out (HH.out.reads.lower (by omega)) (OwnP.nil _ _ _) (by cases rv.ownBlock with | none => exact .inl rfl | some g => exact .inr (by simp [Value.ownBlock])) lRd.out (fun g e => by cases e) ht
          rw [← HRV.out]
          exact this
        have hnn : ¬ w.heap.size = w2.heap.size := by omega
        have hnn' : ¬ w2.heap.size = w.heap.size := by omega
        have hcb : (s.code == 0) = false := by simpa using hc
        clear FIN EE
        generalize s.code = cd at e3 FN hcb hc
        by_cases hlt : k < xs.length
        · have hki : (k : Int) < (xs.length : Int) := by omega
          go_wp2
          refine bodyPost_ret (v := .agg #[.slice arr s.reads.length crr, .slice none 0 0, .int .i64 0, .int .i64 cd]) (by simp [results, Tryd.results60, go_sem, z0, z1, z2, z3, hnn, hnn']) rfl ?_
          refine FN.out _ ?_
          iterate 5 refine Turned.set ?_ (by simp) _
          exact Turned.refl _ _
        · have hki : ¬ (k : Int) < (xs.length : Int) := by omega
          go_wp2
          refine bodyPost_ret (v := .agg #[.slice arr s.reads.length crr, .slice none 0 0, .int .i64 0, .int .i64 cd]) (by simp [results, Tryd.results60, go_sem, z0, z1, z2, z3, hnn, hnn']) rfl ?_
          refine FN.out _ ?_
          iterate 5 refine Turned.set ?_ (by simp) _
          exact Turned.refl _ _
end Go.Proofs.YtokbakphfodabaaDoor.Own

namespace Go.Proofs.YtokbakphfodabaaDoor.Own
open Go.RowKit
set_option linter.unusedVariables false

theorem OwnP.ownB {t : TypeId} {w : World} {B : Nat} {v : Value} {xs : List P2} (h : OwnP t w B v xs) :
    ∃ a cap, v = .slice a xs.length cap ∧ OwnB w B a xs ∧ (∀ x, a = some x → v.ownBlock = some x.block ∧ B ≤ x.block ∧ x.block < w.heap.size) := by
  obtain ⟨a, cap, hv, hs, hc, hm, hb⟩ := h.open
  refine ⟨a, cap, hv, ?_, fun x e => ?_⟩
  · rcases hs with h0 | ⟨b, off, rfl, hat⟩
    · exact .inl h0
    · obtain ⟨h1, h2, h3⟩ := hb _ rfl
      simp only at h2
      subst h2
      refine .inr ⟨b, rfl, (World.ownsRow.lt h b h1).1, hat, fun o => ?_⟩
      rw [hv] at h
      exact OwnP.frozen h o
  · obtain ⟨h1, _, _⟩ := hb x e
    exact ⟨h1, World.ownsRow.lt h x.block h1⟩

structure RunB (o : RunOut) (B : Nat) (w : World) (a1 a2 : Option Addr) : Prop where
  reads : OwnB w B a1 o.reads
  puts : OwnB w B a2 o.puts
  apart : Apart a1 a2 o.reads o.puts
  far1 : ∀ x, a1 = some x → B ≤ x.block ∧ x.block < w.heap.size
  far2 : ∀ x, a2 = some x → B ≤ x.block ∧ x.block < w.heap.size
theorem RunPost.open {o : RunOut} {B : Nat} {e : Ending} {w : World} (h : RunPost o B e w) : ∃ a1 c1 a2 c2, e = .returned (.agg #[.slice a1 o.reads.length c1, .slice a2 o.puts.length c2, .int .i64 o.val, .int .i64 o.code]) ∧ RunB o B w a1 a2 := by
  obtain ⟨rv, pv, rfl, hr, hp, ha⟩ := h
  obtain ⟨a1, c1, e1, o1, f1⟩ := hr.ownB
  obtain ⟨a2, c2, e2, o2, f2⟩ := hp.ownB
  refine ⟨a1, c1, a2, c2, by rw [e1, e2], o1, o2, .inr (.inr fun g g' eg eg' e => ?_), fun x e => (f1 x e).2, fun x e => (f2 x e).2⟩
  have h1 := (f1 _ eg).1
  have h2 := (f2 _ eg').1
  rcases ha with h | h
  · rw [h] at h1; cases h1
  · exact h (by rw [h1, h2, e])
theorem RunB.below {o : RunOut} {B : Nat} {w w' : World} {a1 a2 : Option Addr} (h : RunB o B w a1 a2) (hb : Below w.heap.size w w') : RunB o B w' a1 a2 :=
  ⟨h.reads.below hb, h.puts.below hb, h.apart, fun x e => ⟨(h.far1 x e).1, Nat.lt_of_lt_of_le (h.far1 x e).2 hb.size⟩, fun x e => ⟨(h.far2 x e).1, Nat.lt_of_lt_of_le (h.far2 x e).2 hb.size⟩⟩
theorem RunB.turned {L : List Nat} {o : RunOut} {B : Nat} {w w' : World} {a1 a2 : Option Addr} (h : RunB o B w a1 a2) (ht : Turned L w w') (h1 : ∀ x, a1 = some x → x.block ∉ L) (h2 : ∀ x, a2 = some x → x.block ∉ L) : RunB o B w' a1 a2 :=
  ⟨h.reads.turned ht (fun g e => h1 _ e), h.puts.turned ht (fun g e => h2 _ e), h.apart, fun x e => ⟨(h.far1 x e).1, Nat.lt_of_lt_of_le (h.far1 x e).2 ht.size⟩, fun x e => ⟨(h.far2 x e).1, Nat.lt_of_lt_of_le (h.far2 x e).2 ht.size⟩⟩
/-- The blocks of a run's lists. -/
def blocksOf (a1 a2 : Option Addr) : List Nat := (a1.map (·.block)).toList ++ (a2.map (·.block)).toList
theorem mem_blocksOf {a1 a2 : Option Addr} {x : Nat} : x ∈ blocksOf a1 a2 → (∃ y, a1 = some y ∧ y.block = x) ∨ (∃ y, a2 = some y ∧ y.block = x) := by
  intro h
  unfold blocksOf at h
  rw [List.mem_append, Option.mem_toList, Option.mem_toList] at h
  rcases h with h | h
  · simp only [Option.map_eq_some_iff] at h; exact .inl h
  · simp only [Option.map_eq_some_iff] at h; exact .inr h
theorem blocksOf_1 {a1 a2 : Option Addr} {g : Nat} (h : a1 = some ⟨g, 0, none⟩) : g ∈ blocksOf a1 a2 := by subst h; simp [blocksOf]
theorem blocksOf_2 {a1 a2 : Option Addr} {g : Nat} (h : a2 = some ⟨g, 0, none⟩) : g ∈ blocksOf a1 a2 := by subst h; simp [blocksOf]
end Go.Proofs.YtokbakphfodabaaDoor.Own

namespace Go.Proofs.YtokbakphfodabaaDoor.Own
open Go.RowKit
set_option linter.unusedVariables false
set_option linter.unusedSimpArgs false

def flat4 (xs : List Q4) : List Value := xs.flatMap fun p => [.int .i64 p.1, .int .i64 p.2.1, .int .i64 p.2.2.1, .int .i64 p.2.2.2]
theorem flat4_length (xs : List Q4) : (flat4 xs).length = xs.length * 4 := by
  induction xs with
  | nil => rfl
  | cons p r ih => simp [flat4] at ih ⊢; omega
theorem flat4_snoc (xs : List Q4) (p : Q4) : flat4 (xs ++ [p]) = flat4 xs ++ [.int .i64 p.1, .int .i64 p.2.1, .int .i64 p.2.2.1, .int .i64 p.2.2.2] := by simp [flat4]
theorem flat4_get (xs : List Q4) (i : Nat) (h : i < xs.length) : (flat4 xs)[i * 4]? = some (.int .i64 (xs.getD i q0).1) ∧ (flat4 xs)[i * 4 + 1]? = some (.int .i64 (xs.getD i q0).2.1) ∧ (flat4 xs)[i * 4 + 2]? = some (.int .i64 (xs.getD i q0).2.2.1) ∧ (flat4 xs)[i * 4 + 3]? = some (.int .i64 (xs.getD i q0).2.2.2) := by
  induction xs generalizing i with
  | nil => simp at h
  | cons p r ih =>
    cases i with
    | zero => simp [flat4]
    | succ i =>
      have := ih i (by simpa using h)
      simp only [flat4, List.flatMap_cons] at this ⊢
      rw [show (i + 1) * 4 = i * 4 + 4 by omega, show i * 4 + 4 + 1 = i * 4 + 1 + 4 by omega, show i * 4 + 4 + 2 = i * 4 + 2 + 4 by omega, show i * 4 + 4 + 3 = i * 4 + 3 + 4 by omega]
      simpa using this

/-- v is a slice of the instructions xs, its memory from B on its own. -/
def OwnQ (w : World) (B : Nat) (v : Value) (xs : List Q4) : Prop := w.ownsRow B 142 4 v xs.length (flat4 xs)

theorem OwnQ.keep {w w' : World} {B : Nat} {v : Value} {xs : List Q4} (h : OwnQ w B v xs) (hb : Below w.heap.size w w') : OwnQ w' B v xs := by
  obtain ⟨h1, h2⟩ := h
  refine ⟨h1, ?_⟩
  rcases h2 with h2 | ⟨g, cap, cur, hv, hg, hh, r⟩
  · exact .inl h2
  · exact .inr ⟨g, cap, cur, hv, hg, by rw [hb.block g (Array.getElem?_eq_some_iff.1 hh).1]; exact hh, r⟩
theorem OwnQ.bar {w w' : World} {B rb : Nat} {v : Value} {xs : List Q4} (h : OwnQ w B v xs) (hb : Bar rb w w') (hr : w.heap.size ≤ rb) : OwnQ w' B v xs := by
  obtain ⟨h1, h2⟩ := h
  refine ⟨h1, ?_⟩
  rcases h2 with h2 | ⟨g, cap, cur, hv, hg, hh, r⟩
  · exact .inl h2
  · have := (Array.getElem?_eq_some_iff.1 hh).1
    exact .inr ⟨g, cap, cur, hv, hg, by rw [hb.block g this (by omega)]; exact hh, r⟩
theorem OwnQ.lower {w : World} {B B' : Nat} {v : Value} {xs : List Q4} (h : OwnQ w B v xs) (hB : B' ≤ B) : OwnQ w B' v xs := by
  obtain ⟨h1, h2⟩ := h
  refine ⟨h1, ?_⟩
  rcases h2 with h2 | ⟨g, cap, cur, hv, hg, r⟩
  · exact .inl h2
  · exact .inr ⟨g, cap, cur, hv, Nat.le_trans hB hg, r⟩
theorem OwnQ.open {w : World} {B : Nat} {v : Value} {xs : List Q4} (h : OwnQ w B v xs) : ∃ a cap, v = .slice a xs.length cap ∧ Sl4 w a xs ∧ xs.length ≤ cap := by
  obtain ⟨h1, h2⟩ := h
  rcases h2 with ⟨hv, h0⟩ | ⟨g, cap, cur, hv, hg, hh, hmc, hml, hsz, htk⟩
  · refine ⟨none, 0, by rw [hv, h0], .inl (List.eq_nil_of_length_eq_zero h0), by omega⟩
  · refine ⟨some ⟨g, 0, none⟩, cap, hv, .inr ⟨g, 0, rfl, (Array.getElem?_eq_some_iff.1 hh).1, fun i hi => ?_⟩, hmc⟩
    have e := flat4_get xs i hi
    rw [← htk, List.getElem?_take_of_lt (by omega), List.getElem?_take_of_lt (by omega), List.getElem?_take_of_lt (by omega), List.getElem?_take_of_lt (by omega)] at e
    rw [cell_heap hh, cell_heap hh, cell_heap hh, cell_heap hh, Nat.zero_add]
    simpa using e

theorem four_new (w : World) (a b c d : Value) : ∀ j x, [a, b, c, d][j]? = some x → (w.alloc (.cells #[a, b, c, d] 142)).cell? ((⟨w.heap.size, 0, none⟩ : Addr).add j) = some x := by
  intro j x hj
  match j, hj with
  | 0, hj => simp at hj; subst hj; simp [Addr.add]
  | 1, hj => simp at hj; subst hj; simp [Addr.add]
  | 2, hj => simp at hj; subst hj; simp [Addr.add]
  | 3, hj => simp at hj; subst hj; simp [Addr.add]

theorem infoIns5 : (Tryd.prog.info? 142).map (fun i => (i.zero, i.size, i.bytes)) = some (some (.agg #[.int .i64 0, .int .i64 0, .int .i64 0, .int .i64 0]), 4, 32) := by kernel_rfl

theorem getD_set4 (xs : List Q4) (i j : Nat) (v : Q4) (hi : i < xs.length) : (xs.set i v).getD j q0 = if i = j then v else xs.getD j q0 := by
  simp only [List.getD_eq_getElem?_getD, List.getElem?_set]
  by_cases e : i = j
  · simp [e, show j < xs.length by omega]
  · simp [e]

/-- Of the blocks that were there none but rb has turned, and the row's own one is not rb. -/
theorem OwnQ.bar2 {w w' : World} {B rb : Nat} {v : Value} {xs : List Q4} (h : OwnQ w B v xs) (hb : Bar rb w w') (hr : rb < B) : OwnQ w' B v xs := by
  obtain ⟨h1, h2⟩ := h
  refine ⟨h1, ?_⟩
  rcases h2 with h2 | ⟨g, cap, cur, hv, hg, hh, r⟩
  · exact .inl h2
  · have := (Array.getElem?_eq_some_iff.1 hh).1
    exact .inr ⟨g, cap, cur, hv, hg, by rw [hb.block g this (by omega)]; exact hh, r⟩

theorem flat4_ext {xs : List Q4} {l : List Value} (hl : l.length = xs.length * 4) (h : ∀ i, i < xs.length → l[i * 4]? = some (.int .i64 (xs.getD i q0).1) ∧ l[i * 4 + 1]? = some (.int .i64 (xs.getD i q0).2.1) ∧ l[i * 4 + 2]? = some (.int .i64 (xs.getD i q0).2.2.1) ∧ l[i * 4 + 3]? = some (.int .i64 (xs.getD i q0).2.2.2)) : l = flat4 xs := by
  apply List.ext_getElem?
  intro j
  by_cases hj : j < xs.length * 4
  · have hk : j / 4 < xs.length := by omega
    have e1 := h (j / 4) hk
    have e2 := flat4_get xs (j / 4) hk
    have m : j % 4 = 0 ∨ j % 4 = 1 ∨ j % 4 = 2 ∨ j % 4 = 3 := by omega
    rcases m with m | m | m | m
    · rw [show j = j / 4 * 4 by omega, e1.1, e2.1]
    · rw [show j = j / 4 * 4 + 1 by omega, e1.2.1, e2.2.1]
    · rw [show j = j / 4 * 4 + 2 by omega, e1.2.2.1, e2.2.2.1]
    · rw [show j = j / 4 * 4 + 3 by omega, e1.2.2.2, e2.2.2.2]
  · rw [List.getElem?_eq_none (by omega), List.getElem?_eq_none (by rw [flat4_length]; omega)]

/-- A number of an instruction of such a slice, turned. -/
theorem OwnQ.set {w : World} {B g cap : Nat} {xs : List Q4} (h : OwnQ w B (.slice (some ⟨g, 0, none⟩) xs.length cap) xs) (i f : Nat) (hi : i < xs.length) (hf : f < 4) (n : Int) (q : Q4)
    (hq : q = (if f = 0 then n else (xs.getD i q0).1, if f = 1 then n else (xs.getD i q0).2.1, if f = 2 then n else (xs.getD i q0).2.2.1, if f = 3 then n else (xs.getD i q0).2.2.2)) :
    OwnQ (w.setCell ⟨g, i * 4 + f, none⟩ (.int .i64 n)) B (.slice (some ⟨g, 0, none⟩) xs.length cap) (xs.set i q) := by
  obtain ⟨h1, h2⟩ := h
  rcases h2 with ⟨hv, h0⟩ | ⟨g', cap', cur, hv, hg, hh, hmc, hml, hsz, htk⟩
  · omega
  injection hv with e1 e2 e3
  injection e1 with e1
  injection e1 with e1
  subst e1 e3
  have hl4 := flat4_length xs
  refine ⟨by rw [flat4_length], .inr ⟨g, cap, cur.setIfInBounds (i * 4 + f) (.int .i64 n), by rw [List.length_set], hg, ?_, by rw [List.length_set]; exact hmc, hml, by simpa using hsz, ?_⟩⟩
  · simp [World.setCell, Array.getElem?_modify, hh]
  · rw [List.length_set]
    apply flat4_ext
    · rw [List.length_set, List.length_take]
      simp
      omega
    · intro j hj
      rw [List.length_set] at hj
      have e := flat4_get xs j hj
      rw [← htk] at e
      rw [List.getElem?_take_of_lt (by omega), List.getElem?_take_of_lt (by omega), List.getElem?_take_of_lt (by omega), List.getElem?_take_of_lt (by omega)] at e
      simp only [Array.getElem?_toList] at e
      rw [List.getElem?_take_of_lt (by omega), List.getElem?_take_of_lt (by omega), List.getElem?_take_of_lt (by omega), List.getElem?_take_of_lt (by omega), getD_set4 _ _ _ _ hi]
      simp only [Array.getElem?_toList, Array.getElem?_setIfInBounds]
      by_cases hij : i = j
      · subst hij
        rw [if_pos rfl, hq]
        have b0 : i * 4 + f < cur.size := by omega
        match f, hf with
        | 0, _ => simp [e, b0, show ¬ (i * 4 = i * 4 + 1) by omega]; omega
        | 1, _ => simp [e, b0]
        | 2, _ => simp [e, b0]
        | 3, _ => simp [e, b0]
      · rw [if_neg hij, if_neg (by omega), if_neg (by omega), if_neg (by omega), if_neg (by omega)]
        exact e

/-- Every number of the instructions is small. -/
def SmQ (q : Q4) : Prop := (-2000000 ≤ q.1 ∧ q.1 ≤ 2000000) ∧ (-2000000 ≤ q.2.1 ∧ q.2.1 ≤ 2000000) ∧ (-2000000 ≤ q.2.2.1 ∧ q.2.2.1 ≤ 2000000) ∧ (-2000000 ≤ q.2.2.2 ∧ q.2.2.2 ≤ 2000000)
def Sm4 (xs : List Q4) : Prop := ∀ k, k < xs.length → SmQ (xs.getD k q0)
theorem Sm4.nil : Sm4 [] := fun k hk => by simp at hk
theorem Sm4.snoc {xs : List Q4} (h : Sm4 xs) {q : Q4} (hq : SmQ q) : Sm4 (xs ++ [q]) := by
  intro k hk
  simp at hk
  by_cases e : k < xs.length
  · have e2 : (xs ++ [q]).getD k q0 = xs.getD k q0 := by simp [List.getD, List.getElem?_append_left e]
    rw [e2]; exact h k e
  · have e2 : (xs ++ [q]).getD k q0 = q := by
      have : k = xs.length := by omega
      simp [List.getD, this]
    rw [e2]; exact hq
theorem Sm4.set {xs : List Q4} (h : Sm4 xs) (i : Nat) (hi : i < xs.length) {q : Q4} (hq : SmQ q) : Sm4 (xs.set i q) := by
  intro k hk
  rw [List.length_set] at hk
  rw [getD_set4 _ _ _ _ hi]
  by_cases e : i = k
  · rw [if_pos e]; exact hq
  · rw [if_neg e]; exact h k hk
end Go.Proofs.YtokbakphfodabaaDoor.Own
