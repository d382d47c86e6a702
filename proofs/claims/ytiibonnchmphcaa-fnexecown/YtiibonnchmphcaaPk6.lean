/-
  Own texts, bundled: SpecRun, Ints, OwnInts, RunNow, RunLess, RunLook.
-/
import Derived.Test.YtiibonnchmphcaaPk5
import Derived.Test.YtiibonnchmphcaaPk3
import Derived.Test.YtiibonnchmphcaaPk1
import Derived.BigQuiet
import Derived.Deep.QuietTactic
import Derived.Test.YtiibonnchmphcaaPk2
import Derived.Test.YtiibonnchmphcaaPk4
import Derived.StillTailTactics
import Derived.Deep.RegionLaw
import Derived.Deep.AppendLies
namespace Go.Proofs.Ytiibonnchmphcaa.Own
open Go.RowKit
set_option linter.unusedVariables false
set_option linter.unusedSimpArgs false

/-- What a run hands back: four cells, its lists rows of its own from B on. -/
def RunPost (o : RunOut) (B : Nat) (e : Ending) (w' : World) : Prop :=
  ∃ rv pv, e = .returned (.agg #[rv, pv, .int .i64 o.val, .int .i64 o.code]) ∧ OwnP 38 w' B rv o.reads ∧ OwnP 50 w' B pv o.puts ∧ (rv.ownBlock = none ∨ rv.ownBlock ≠ pv.ownBlock)

theorem l3Step (la : Option Addr) (lc : Nat) (bs : List P2) (rg rc : Nat) (s : RunSt) (rv pv : Value) (p : Q4) (v : Int) (B : Nat) (w : World)
    (hb : Sl w la bs) (l4 : bs.length = 4) (hla : ∀ x, la = some x → x.block < B) (hh : Held B rg w rv pv s) (hrg : rg < B) (hB : B ≤ w.heap.size) (lx : s.reads.length ≤ 1000) (ly : s.puts.length ≤ 1000)
    (hp : insOk p = true) (h6 : ¬ p.1 = 6) (hc : s.code = 0) (hn : ∀ i, i < 4 → numOk (s.regs.getD i 0) = true) :
    Calls Try.prog 74 #[.slice la bs.length lc, .agg #[rv, pv, .int .i64 v, .int .i64 s.code], .slice (some ⟨rg, 0, none⟩) 4 rc, .agg #[.int .i64 p.1, .int .i64 p.2.1, .int .i64 p.2.2.1, .int .i64 p.2.2.2]] w fun e w' => StepPost bs s p B rg v w e w' := by
  by_cases h1 : p.1 = 1
  · exact l3StepL la lc bs rg rc s rv pv p v B w hb l4 hla hh hrg hB lx ly hp h1 hc hn
  by_cases h2 : p.1 = 2
  · exact l3StepP la lc bs rg rc s rv pv p v B w hb l4 hla hh hrg hB lx ly hp h2 hc hn
  refine l3StepA la lc bs rg rc s rv pv p v B w hb l4 hla hh hrg hB lx ly hp ?_ hc hn
  obtain ⟨kd, a, b, n⟩ := p
  by_cases h3 : kd = 3
  · exact .inl h3
  by_cases h7 : kd = 7
  · exact .inr (.inl h7)
  by_cases h4 : kd = 4
  · exact .inr (.inr (.inl h4))
  by_cases h5 : kd = 5
  · exact .inr (.inr (.inr h5))
  rw [insOk_no a b n ⟨h1, h2, h3, h4, h5, h6, h7⟩] at hp
  cases hp

/-- Of the blocks below B none but those listed have turned. -/
structure Kq (B : Nat) (L : List Nat) (w w' : World) : Prop where
  os : w'.os = w.os
  tape : w'.tape = w.tape
  output : w'.output = w.output
  size : w.heap.size ≤ w'.heap.size
  block : ∀ k, k < B → k ∉ L → w'.heap[k]? = w.heap[k]?
theorem Kq.refl (B : Nat) (L : List Nat) (w : World) : Kq B L w w := ⟨rfl, rfl, rfl, Nat.le_refl _, fun _ _ _ => rfl⟩
theorem Kq.trans {B : Nat} {L : List Nat} {a b c : World} (h : Kq B L a b) (k : Kq B L b c) : Kq B L a c :=
  ⟨k.os.trans h.os, k.tape.trans h.tape, k.output.trans h.output, Nat.le_trans h.size k.size, fun i hi hn => (k.block i hi hn).trans (h.block i hi hn)⟩
theorem Kp.kq {B rg : Nat} {L : List Nat} {w w' : World} (h : Kp B rg w w') (hr : rg ∈ L) : Kq B L w w' := ⟨h.os, h.tape, h.output, h.size, fun k hk hn => h.block k hk (fun e => hn (e ▸ hr))⟩
theorem Turned.kq {B : Nat} {L L' : List Nat} {w w' : World} (h : Turned L' w w') (hB : B ≤ w.heap.size) (hL : ∀ x, x ∈ L' → x ∈ L ∨ B ≤ x) : Kq B L w w' :=
  ⟨h.os, h.tape, h.output, h.size, fun k hk hn => h.block k (by omega) (fun e => by rcases hL k e with h | h; exact hn h; omega)⟩
theorem Kq.below {B B' : Nat} {L : List Nat} {w w' : World} (h : Kq B L w w') (hL : ∀ x, x ∈ L → B' ≤ x) (hB : B' ≤ B) : Below B' w w' :=
  ⟨h.os, h.tape, h.output, h.size, fun k hk => h.block k (by omega) (fun e => by have := hL k e; omega)⟩
theorem Kq.cell {B b : Nat} {L : List Nat} {w w' : World} (h : Kq B L w w') (hb : b < B) (hn : b ∉ L) (o : Nat) : w'.cell? ⟨b, o, none⟩ = w.cell? ⟨b, o, none⟩ :=
  World.cell?_of_block (w := w) (a := ⟨b, o, none⟩) (h.block b hb hn)
theorem Kq.frozen {B b : Nat} {L : List Nat} {w w' : World} (h : Kq B L w w') (hb : b < B) (hn : b ∉ L) (o : Nat) : w'.frozen? ⟨b, o, none⟩ = w.frozen? ⟨b, o, none⟩ :=
  World.frozen?_of_block (w := w) (a := ⟨b, o, none⟩) (h.block b hb hn)
theorem C4.kq {B b : Nat} {L : List Nat} {w w' : World} {x0 x1 x2 x3 : Value} (h : C4 w b x0 x1 x2 x3) (k : Kq B L w w') (hb : b < B) (hn : b ∉ L) : C4 w' b x0 x1 x2 x3 := by
  refine ⟨Nat.lt_of_lt_of_le h.1 k.size, ?_⟩
  rw [k.cell hb hn, k.cell hb hn, k.cell hb hn, k.cell hb hn]; exact h.2
theorem C4.put4 {w : World} {b : Nat} {x0 x1 x2 x3 : Value} (h : C4 w b x0 x1 x2 x3) (y0 y1 y2 y3 : Value) :
    C4 ((((w.setCell ⟨b, 0, none⟩ y0).setCell ⟨b, 1, none⟩ y1).setCell ⟨b, 2, none⟩ y2).setCell ⟨b, 3, none⟩ y3) b y0 y1 y2 y3 := by
  obtain ⟨h0, c0, c1, c2, c3⟩ := h
  refine ⟨by simpa [World.setCell] using h0, ?_, ?_, ?_, ?_⟩
  · rw [setCell_cell_other _ _ _ _ _ (by omega), setCell_cell_other _ _ _ _ _ (by omega), setCell_cell_other _ _ _ _ _ (by omega)]
    exact setCell_cell_same _ _ _ _ _ c0
  · rw [setCell_cell_other _ _ _ _ _ (by omega), setCell_cell_other _ _ _ _ _ (by omega)]
    exact setCell_cell_same _ _ _ _ _ (by rw [setCell_cell_other _ _ _ _ _ (by omega)]; exact c1)
  · rw [setCell_cell_other _ _ _ _ _ (by omega)]
    exact setCell_cell_same _ _ _ _ _ (by rw [setCell_cell_other _ _ _ _ _ (by omega), setCell_cell_other _ _ _ _ _ (by omega)]; exact c2)
  · exact setCell_cell_same _ _ _ _ _ (by rw [setCell_cell_other _ _ _ _ _ (by omega), setCell_cell_other _ _ _ _ _ (by omega), setCell_cell_other _ _ _ _ _ (by omega)]; exact c3)

theorem Sl.kq {B : Nat} {L : List Nat} {w w' : World} {a : Option Addr} {xs : List P2} (h : Sl w a xs) (k : Kq B L w w') (hb : ∀ x, a = some x → x.block < B ∧ x.block ∉ L) : Sl w' a xs := by
  rcases h with h | ⟨b, off, rfl, h⟩
  · exact .inl h
  · obtain ⟨h1, h2⟩ := hb _ rfl
    exact .inr ⟨b, off, rfl, Nat.lt_of_lt_of_le h.1 k.size, fun i hi => by rw [k.cell h1 h2, k.cell h1 h2]; exact h.2 i hi⟩
theorem At4.kq {B b off : Nat} {L : List Nat} {w w' : World} {xs : List Q4} (h : At4 w b off xs) (k : Kq B L w w') (hb : b < B) (hn : b ∉ L) : At4 w' b off xs :=
  h.congr (Nat.lt_of_lt_of_le h.1 k.size) (fun o => k.cell hb hn o)

theorem mkRegs (w : World) : (Instr.makeSlice 41 (.int .i64 4) (.int .i64 4)).run Try.prog w = .ok (.slice (some ⟨w.heap.size, 0, none⟩) 4 4) (w.alloc (.cells #[.int .i64 0, .int .i64 0, .int .i64 0, .int .i64 0] 3)) := by kernel_rfl

set_option maxRecDepth 100000 in
set_option maxHeartbeats 4000000 in
theorem specRun (la pa : Option Addr) (lc pc : Nat) (bs : List P2) (xs : List Q4) (w : World) (hb : Sl w la bs) (hx : Sl4 w pa xs) (l1 : bs.length ≤ 2 ^ 40) (l2 : xs.length ≤ 2 ^ 40) :
    Calls Try.prog 18 #[.slice la bs.length lc, .slice pa xs.length pc] w fun e w' => RunPost (execRun bs xs) w.heap.size e w' ∧ Below w.heap.size w w' := by
  have SB : Hid (Sl w la bs) := hb
  have SX : Hid (Sl4 w pa xs) := hx
  clear hb hx
  obtain ⟨W, hW⟩ : ∃ W, W = w.alloc (.cells #[.slice none 0 0, .slice none 0 0, .int .i64 0, .int .i64 0] 30) := ⟨_, rfl⟩
  have BW : Hid (Below w.heap.size w W) := by show Below _ _ _; rw [hW]; exact below_new _ _
  have HSW : Hid (W.heap.size = w.heap.size + 1) := by show _ = _; rw [hW]; simp
  have Z0 : Hid (C4 W w.heap.size (.slice none 0 0) (.slice none 0 0) (.int .i64 0) (.int .i64 0)) := by show C4 _ _ _ _ _ _; rw [hW]; exact C4.new _ _ _ _ _ _
  have FZ : Hid (∀ o, W.frozen? ⟨w.heap.size, o, none⟩ = false) := by show ∀ o, _; rw [hW]; exact fun o => frozen_heap (heap_new _ _) o
  have HW : Hid (W = _) := hW
  clear hW
  cases hB : boxOk bs with
  | false =>
    have EF : Hid (execRun bs xs = ⟨[], [], 0, 3⟩) := execRun_form (by simp [hB])
    obtain ⟨_, z0, z1, z2, z3⟩ := Z0.out
    have fz := FZ.out
    go_enter Try.func18, Try.ntmps18
    go_upto_region 1 with fail
    rw [← HW.out]
    go_wp2_with fail
    refine (specOk la lc bs W (SB.out.below BW.out) l1).mono ?_
    rintro e w1 ⟨rfl, hw⟩
    rw [hw, hB]
    clear hw
    go_wp2
    refine bodyPost_ret (v := .agg #[.slice none 0 0, .slice none 0 0, .int .i64 0, .int .i64 3]) (by simp [results, Try.results18, go_sem, z0, z1, z2, z3]) rfl ?_
    rw [EF.out]
    refine ⟨⟨_, _, rfl, OwnP.nil _ _ _, OwnP.nil _ _ _, .inl rfl⟩, ?_⟩
    exact (((BW.out.setCell (Nat.le_refl _) _).setCell (Nat.le_refl _) _).setCell (Nat.le_refl _) _).setCell (Nat.le_refl _) _
  | true =>
  cases hP : progOk xs with
  | false =>
    have EF : Hid (execRun bs xs = ⟨[], [], 0, 3⟩) := execRun_form (by simp [hP])
    go_enter Try.func18, Try.ntmps18
    go_upto_region 1 with fail
    rw [← HW.out]
    go_wp2_with fail
    refine (specOk la lc bs W (SB.out.below BW.out) l1).mono ?_
    rintro e w1 ⟨rfl, hw⟩
    rw [hw, hB]
    clear hw
    go_wp2_with fail
    refine (specProgOk pa pc xs W (SX.out.below BW.out) l2).mono ?_
    rintro e w2 ⟨rfl, b2⟩
    rw [hP]
    have B2 : Hid (Below w.heap.size w w2) := BW.out.trans (b2.mono BW.out.size)
    obtain ⟨_, z0, z1, z2, z3⟩ := Z0.out.below b2
    have fz : ∀ o, w2.frozen? ⟨w.heap.size, o, none⟩ = false := fun o => by rw [b2.frozen (p := ⟨w.heap.size, o, none⟩) Z0.out.1]; exact FZ.out o
    clear b2
    go_wp2
    refine bodyPost_ret (v := .agg #[.slice none 0 0, .slice none 0 0, .int .i64 0, .int .i64 3]) (by simp [results, Try.results18, go_sem, z0, z1, z2, z3]) rfl ?_
    rw [EF.out]
    refine ⟨⟨_, _, rfl, OwnP.nil _ _ _, OwnP.nil _ _ _, .inl rfl⟩, ?_⟩
    exact (((B2.out.setCell (Nat.le_refl _) _).setCell (Nat.le_refl _) _).setCell (Nat.le_refl _) _).setCell (Nat.le_refl _) _
  | true =>
    have ER : Hid (execRun bs xs = outR (runR bs xs 0 initR)) := execRun_is hB hP
    have HBO : Hid (boxOk bs = true) := hB
    have HPO : Hid (progOk xs = true) := hP
    have HL4 : Hid (bs.length = 4) := boxOk_len hB
    have HLA : Hid (∀ x, la = some x → x.block < w.heap.size) := by
      intro x e
      rcases SB.out with h | ⟨b, off, e', h⟩
      · have := HL4.out; rw [h] at this; simp at this
      · rw [e] at e'; injection e' with e'; rw [e']; exact h.1
    have HX10 : Hid (xs.length ≤ 10) := by simp only [progOk, Bool.and_eq_true, decide_eq_true_eq] at hP; exact hP.1
    go_enter Try.func18, Try.ntmps18
    go_upto_region 1 with fail
    rw [← HW.out]
    go_wp2_with fail
    refine (specOk la lc bs W (SB.out.below BW.out) l1).mono ?_
    rintro e w1 ⟨rfl, hw⟩
    rw [hw, hB]
    clear hw
    go_wp2_with fail
    refine (specProgOk pa pc xs W (SX.out.below BW.out) l2).mono ?_
    rintro e w2 ⟨rfl, b2⟩
    rw [hP]
    have B2 : Hid (Below w.heap.size w w2) := BW.out.trans (b2.mono BW.out.size)
    have Z2 : Hid (C4 w2 w.heap.size (.slice none 0 0) (.slice none 0 0) (.int .i64 0) (.int .i64 0)) := Z0.out.below b2
    have F2 : Hid (∀ o, w2.frozen? ⟨w.heap.size, o, none⟩ = false) := fun o => by rw [b2.frozen (p := ⟨w.heap.size, o, none⟩) Z0.out.1]; exact FZ.out o
    clear b2 hB hP
    obtain ⟨X, hX⟩ : ∃ X, X = (w2.alloc (.cells #[.slice none 0 0, .slice none 0 0, .int .i64 0, .int .i64 0] 30)).alloc (.cells #[.int .i64 0, .int .i64 0, .int .i64 0, .int .i64 0] 3) := ⟨_, rfl⟩
    have hmk := mkRegs
    go_upto_region 5 with fail
    rw [← hX]
    have gr0 : X.heap[w2.heap.size]? = some (.cells #[.slice none 0 0, .slice none 0 0, .int .i64 0, .int .i64 0] 30 (0, 0)) := by rw [hX]; exact heap_new1 _ _ _
    have gr1 : X.heap[w2.heap.size + 1]? = some (.cells #[.int .i64 0, .int .i64 0, .int .i64 0, .int .i64 0] 3 (0, 0)) := by rw [hX]; exact heap_new2 _ _ _
    have hsX : X.heap.size = w2.heap.size + 2 := by rw [hX]; simp
    have BX2 : Below w2.heap.size w2 X := by rw [hX]; exact ((Below.refl _ _).alloc (Nat.le_refl _) _).alloc (by simp) _
    have BX : Hid (Below w.heap.size w X) := B2.out.trans (BX2.mono B2.out.size)
    have ZX : Hid (C4 X w.heap.size (.slice none 0 0) (.slice none 0 0) (.int .i64 0) (.int .i64 0)) := Z2.out.below BX2
    have FX : Hid (∀ o, X.frozen? ⟨w.heap.size, o, none⟩ = false) := fun o => by rw [BX2.frozen (p := ⟨w.heap.size, o, none⟩) Z2.out.1]; exact F2.out o
    have CX : Hid (C4 X w2.heap.size (.slice none 0 0) (.slice none 0 0) (.int .i64 0) (.int .i64 0)) := ⟨by omega, (cell_heap gr0 0).trans rfl, (cell_heap gr0 1).trans rfl, (cell_heap gr0 2).trans rfl, (cell_heap gr0 3).trans rfl⟩
    have HX0 : Hid (Held (w2.heap.size + 2) (w2.heap.size + 1) X (.slice none 0 0) (.slice none 0 0) initR) := by
      refine ⟨⟨by omega, fun i hi => ?_⟩, rfl, fun o => frozen_heap gr1 o, OwnP.nil _ _ _, OwnP.nil _ _ _, .inl rfl⟩
      have hi' : i < 4 := hi
      have : i = 0 ∨ i = 1 ∨ i = 2 ∨ i = 3 := by omega
      rcases this with rfl | rfl | rfl | rfl <;> exact (cell_heap gr1 _).trans rfl
    have FR0 : Hid (∀ o, X.frozen? ⟨w2.heap.size, o, none⟩ = false) := fun o => frozen_heap gr0 o
    have hNN : w.heap.size < w2.heap.size := Z2.out.1
    have HSX : Hid (X.heap.size = w2.heap.size + 2) := hsX
    have l2' : xs.length ≤ 10 := HX10.out
    clear hX gr0 gr1 BX2 hmk hsX
    go_wp2_with fail
    go_loopw [7, 8] (fun i p wr => ∃ (k : Nat) (s : RunSt) (rv pv : Value), i = .int .i64 k ∧ Hid (Held (w2.heap.size + 2) (w2.heap.size + 1) wr rv pv s) ∧ Hid (C4 wr w2.heap.size rv pv (.int .i64 0) (.int .i64 s.code)) ∧ Hid (∀ o, wr.frozen? ⟨w2.heap.size, o, none⟩ = false) ∧ Hid (runR bs xs k s = runR bs xs 0 initR) ∧ Hid (Inv bs xs s) ∧ Hid (Kq (w2.heap.size + 2) [w2.heap.size, w2.heap.size + 1] X wr) ∧ Hid (k ≤ 20)) (fun i _ _ => xs.length - (intOf i).toNat)
    case atStart => exact ⟨0, initR, _, _, rfl, HX0, CX, FR0, rfl, Inv.init _ _, Kq.refl _ _ _, Nat.zero_le _⟩
    case round =>
      obtain ⟨k, s, rv, pv, rfl, HH, CR, FR, ERk, IV, KX, K20⟩ := hrel
      have hk20 : k ≤ 20 := K20.out
      obtain ⟨_, e0, e1, e2, e3⟩ := CR.out
      have fr := FR.out
      have hsw : w2.heap.size + 2 ≤ wr.heap.size := by have := KX.out.size; have := HSX.out; omega
      -- how it ends
      have FIN : Hid (∀ (W' : World) (rv' pv' : Value) (o : RunOut), execRun bs xs = o → OwnP 38 wr w.heap.size rv' o.reads → OwnP 50 wr w.heap.size pv' o.puts → (rv'.ownBlock = none ∨ rv'.ownBlock ≠ pv'.ownBlock) → (∀ g, rv'.ownBlock = some g → g ≠ w.heap.size ∧ g ≠ w2.heap.size) → (∀ g, pv'.ownBlock = some g → g ≠ w.heap.size ∧ g ≠ w2.heap.size) → Turned [w.heap.size, w2.heap.size] wr W' → RunPost (execRun bs xs) w.heap.size (.returned (.agg #[rv', pv', .int .i64 o.val, .int .i64 o.code])) W' ∧ Below w.heap.size w W') := by
        intro W' rv' pv' o eo h1 h2 h3 h4 h5 h6
        rw [eo]
        refine ⟨⟨rv', pv', rfl, h1.turned h6 (fun g e => by have := h4 g e; simp; omega), h2.turned h6 (fun g e => by have := h5 g e; simp; omega), h3⟩, ?_⟩
        refine BX.out.trans ((KX.out.below (B' := w.heap.size) (fun x hx => by simp at hx; omega) (by omega)).trans (h6.below (fun x hx => by simp at hx; omega) (by omega)))
      have lRd : Hid (∀ g, rv.ownBlock = some g → g ≠ w.heap.size ∧ g ≠ w2.heap.size) := fun g e => by have := (World.ownsRow.lt HH.out.reads g e).1; omega
      have lPt : Hid (∀ g, pv.ownBlock = some g → g ≠ w.heap.size ∧ g ≠ w2.heap.size) := fun g e => by have := (World.ownsRow.lt HH.out.puts g e).1; omega
      have ZR : Hid (C4 wr w.heap.size (.slice none 0 0) (.slice none 0 0) (.int .i64 0) (.int .i64 0)) := ZX.out.kq KX.out (by omega) (by simp; omega)
      have FZR : Hid (∀ o, wr.frozen? ⟨w.heap.size, o, none⟩ = false) := fun o => by rw [KX.out.frozen (by omega) (by simp; omega)]; exact FX.out o
      obtain ⟨arr, crr, hrv, _, _, _, _⟩ := HH.out.reads.open
      obtain ⟨app, cpp, hpv, _, _, _, _⟩ := HH.out.puts.open
      have HRV : Hid (rv = .slice arr s.reads.length crr) := hrv
      have HPV : Hid (pv = .slice app s.puts.length cpp) := hpv
      rw [hrv] at e0
      rw [hpv] at e1
      clear hrv hpv
      by_cases hc : s.code = 0
      · have HC : Hid (s.code = 0) := hc
        rw [hc] at e3
        clear hc
        by_cases hlt : k < xs.length
        · rcases SX.out with h | ⟨pb, po, rfl, h1⟩
          · subst h; simp at hlt
          have hpb : pb < w.heap.size := h1.1
          have AX : Hid (At4 wr pb po xs) := (h1.below BX.out).kq KX.out (by omega) (by simp; omega)
          obtain ⟨ca, cb, cc, cd⟩ := AX.out.2 k hlt
          clear h1
          obtain ⟨p, hp⟩ : ∃ p, p = xs.getD k q0 := ⟨_, rfl⟩
          have HP : Hid (p = xs.getD k q0) := hp
          rw [← hp] at ca cb cc cd
          have HOK : Hid (insOk p = true) := by show _ = _; rw [hp]; exact progOk_ins HPO.out _ (getD_mem hlt)
          have HM : Hid (p ∈ xs) := by show _ ∈ _; rw [hp]; exact getD_mem hlt
          clear hp
          obtain ⟨kd, pa, pb', pn⟩ := p
          dsimp only at ca cb cc cd
          have hki : (k : Int) < (xs.length : Int) := by omega
          obtain ⟨V, hV⟩ : ∃ V, V = wr.alloc (.cells #[.int .i64 kd, .int .i64 pa, .int .i64 pb', .int .i64 pn] 53) := ⟨_, rfl⟩
          have gV : V.heap[wr.heap.size]? = some (.cells #[.int .i64 kd, .int .i64 pa, .int .i64 pb', .int .i64 pn] 53 (0, 0)) := by rw [hV]; exact heap_new _ _
          have v0 : V.cell? ⟨wr.heap.size, 0, none⟩ = some (.int .i64 kd) := (cell_heap gV 0).trans rfl
          have v1 : V.cell? ⟨wr.heap.size, 1, none⟩ = some (.int .i64 pa) := (cell_heap gV 1).trans rfl
          have v2 : V.cell? ⟨wr.heap.size, 2, none⟩ = some (.int .i64 pb') := (cell_heap gV 2).trans rfl
          have v3 : V.cell? ⟨wr.heap.size, 3, none⟩ = some (.int .i64 pn) := (cell_heap gV 3).trans rfl
          have BV : Hid (Below wr.heap.size wr V) := by show Below _ _ _; rw [hV]; exact below_new _ _
          have HSV : Hid (V.heap.size = wr.heap.size + 1) := by show _ = _; rw [hV]; simp
          have HV : Hid (V = _) := hV
          clear hV gV
          have HHV : Hid (Held (w2.heap.size + 2) (w2.heap.size + 1) V rv pv s) := HH.out.turned (Turned.ofBelow (L := []) BV.out) (by simp) (by simp) (by simp)
          have CV : Hid (C4 V w2.heap.size rv pv (.int .i64 0) (.int .i64 s.code)) := CR.out.below BV.out
          have FV : Hid (∀ o, V.frozen? ⟨w2.heap.size, o, none⟩ = false) := fun o => by rw [BV.out.frozen (p := ⟨w2.heap.size, o, none⟩) CR.out.1]; exact FR.out o
          have KV : Hid (Kq (w2.heap.size + 2) [w2.heap.size, w2.heap.size + 1] X V) := KX.out.trans ((Turned.ofBelow (L := []) BV.out).kq (by omega) (by simp))
          go_upto_region 9 with fail
          rw [← HV.out]
          clear ca cb cc cd e0 e1 e2 e3 fr
          obtain ⟨_, e0, e1, e2, e3⟩ := CV.out
          have fr := FV.out
          rw [HRV.out] at e0
          rw [HPV.out] at e1
          rw [HC.out] at e3
          by_cases h6 : kd = 6
          · subst h6
            have ok := HOK.out
            rw [insOk_6] at ok
            simp only [Bool.and_eq_true] at ok
            obtain ⟨na, hna, rfl⟩ := regOk_nat ok.1.1
            obtain ⟨nb, hnb, rfl⟩ := regOk_nat ok.1.2
            have hn := ok.2
            simp only [lessOk, Bool.and_eq_true, decide_eq_true_eq] at hn
            obtain ⟨n, hn1, hn2⟩ : ∃ n : Nat, pn = (n : Int) ∧ n ≤ 10 := ⟨pn.toNat, by omega, by omega⟩
            subst hn1
            clear ok
            have hai : (na : Int) < 4 := by omega
            have hbi : (nb : Int) < 4 := by omega
            have rga := HHV.out.regs.2 na (by rw [HHV.out.four]; exact hna)
            have rgb := HHV.out.regs.2 nb (by rw [HHV.out.four]; exact hnb)
            rw [Nat.zero_add] at rga rgb
            have EJ : Hid (s.regs.getD na 0 < s.regs.getD nb 0 → runR bs xs k s = runR bs xs (k + n + 1) s) := fun hl => by
              have e := run_jump (bs := bs) (xs := xs) (k := k) (s := s) hlt HC.out (by rw [← HP.out]) (by rw [← HP.out]; simpa using hl)
              rw [← HP.out] at e
              simpa using e
            have EG : Hid (¬ s.regs.getD na 0 < s.regs.getD nb 0 → runR bs xs k s = runR bs xs (k + 1) s) := fun hl =>
              run_go (bs := bs) (xs := xs) (k := k) (s := s) hlt HC.out (by rw [← HP.out]) (by rw [← HP.out]; simpa using hl)
            generalize s.regs.getD na 0 = x at rga EJ EG
            generalize s.regs.getD nb 0 = y at rgb EJ EG
            go_upto_region 10 with fail
            go_quiet (fail)
            by_cases hl : x < y
            · have E' : Hid (runR bs xs (k + n + 1) s = runR bs xs 0 initR) := (EJ.out hl).symm.trans ERk.out
              go_wp2
              go_roundw
              case rel => exact ⟨k + n + 1, s, rv, pv, by go_num, HHV.out.turned (L := []) ((Turned.refl _ _).drewN _) (by simp) (by simp) (by simp), CV, FV, E', IV, KV.out.trans (Turned.kq (L' := []) ((Turned.refl _ _).drewN _) (by have := HSV.out; omega) (by simp)), by show _ ≤ _; omega⟩
              case measure => simp [intOf]; omega
            · have E' : Hid (runR bs xs (k + 1) s = runR bs xs 0 initR) := (EG.out hl).symm.trans ERk.out
              go_wp2
              go_roundw
              case rel => exact ⟨k + 1, s, rv, pv, by go_num, HHV.out.turned (L := []) ((Turned.refl _ _).drewN _) (by simp) (by simp) (by simp), CV, FV, E', IV, KV.out.trans (Turned.kq (L' := []) ((Turned.refl _ _).drewN _) (by have := HSV.out; omega) (by simp)), by show _ ≤ _; omega⟩
              case measure => simp [intOf]; omega
          · have h6' : (kd == 6) = false := by simpa using h6
            have E' : Hid (runR bs xs (k + 1) (stepR bs s (kd, pa, pb', pn)) = runR bs xs 0 initR) := by
              show _ = _
              rw [← ERk.out, run_step (bs := bs) (xs := xs) (k := k) (s := s) hlt HC.out (by rw [← HP.out]; exact h6), ← HP.out]
            have I' : Hid (Inv bs xs (stepR bs s (kd, pa, pb', pn))) := IV.out.step HC.out _ HOK.out HM.out h6
            have SBV : Hid (Sl V la bs) := ((SB.out.below BX.out).kq KX.out (fun x e => by have := HLA.out x e; simp; omega)).below BV.out
            have ST : Hid (Calls Try.prog 74 #[.slice la bs.length lc, .agg #[.slice arr s.reads.length crr, .slice app s.puts.length cpp, .int .i64 0, .int .i64 0], .slice (some ⟨w2.heap.size + 1, 0, none⟩) 4 4, .agg #[.int .i64 kd, .int .i64 pa, .int .i64 pb', .int .i64 pn]] V fun e w' => StepPost bs s (kd, pa, pb', pn) (w2.heap.size + 2) (w2.heap.size + 1) 0 V e w') := by
              have f4 := reads_few IV.out
              have p4 := puts_few IV.out
              have b1 := boxesTo_len loadsQ xs 4
              have b2 := boxesTo_len putsQ xs 4
              have h := l3Step la lc bs (w2.heap.size + 1) 4 s rv pv (kd, pa, pb', pn) 0 (w2.heap.size + 2) V SBV.out HL4.out (fun x e => by have := HLA.out x e; omega) HHV.out (by omega) (by have := HSV.out; omega) (by omega) (by omega) HOK.out h6 HC.out (IV.out.num HC.out)
              rw [HRV.out, HPV.out, HC.out] at h
              exact h
            clear SBV HOK HM
            go_wp2_with fail
            refine Calls.mono ST.out ?_
            rintro e w3 ⟨rv3, pv3, rfl, H3, K3⟩
            obtain ⟨ar3, cr3, hrv3, _, _, _, _⟩ := H3.reads.open
            obtain ⟨ap3, cp3, hpv3, _, _, _, _⟩ := H3.puts.open
            generalize stepR bs s (kd, pa, pb', pn) = s3 at H3 E' I' hrv3 hpv3 ⊢
            have KK := KV.out.trans (K3.kq (L := [w2.heap.size, w2.heap.size + 1]) (by simp))
            have K3' : Kq (w2.heap.size + 2) [w2.heap.size + 1] V w3 := K3.kq (by simp)
            have C3 : C4 w3 w2.heap.size rv pv (.int .i64 0) (.int .i64 s.code) := CV.out.kq K3' (by omega) (by simp)
            have F3 : Hid (∀ o, w3.frozen? ⟨w2.heap.size, o, none⟩ = false) := fun o => by rw [K3'.frozen (by omega) (by simp)]; exact FV.out o
            have TF : Turned [w2.heap.size] w3 ((((w3.setCell ⟨w2.heap.size, 0, none⟩ rv3).setCell ⟨w2.heap.size, 1, none⟩ pv3).setCell ⟨w2.heap.size, 2, none⟩ (.int .i64 0)).setCell ⟨w2.heap.size, 3, none⟩ (.int .i64 s3.code)) := ((((Turned.refl _ _).set (by simp) _).set (by simp) _).set (by simp) _).set (by simp) _
            have hs3 : w2.heap.size + 2 ≤ w3.heap.size := by have := K3.size; have := HSV.out; omega
            have HF : Hid (Held (w2.heap.size + 2) (w2.heap.size + 1) ((((w3.setCell ⟨w2.heap.size, 0, none⟩ rv3).setCell ⟨w2.heap.size, 1, none⟩ pv3).setCell ⟨w2.heap.size, 2, none⟩ (.int .i64 0)).setCell ⟨w2.heap.size, 3, none⟩ (.int .i64 s3.code)) rv3 pv3 s3) := H3.turned TF (by simp) (fun g e => by have := (World.ownsRow.lt H3.reads g e).1; simp; omega) (fun g e => by have := (World.ownsRow.lt H3.puts g e).1; simp; omega)
            have CF : Hid (C4 ((((w3.setCell ⟨w2.heap.size, 0, none⟩ rv3).setCell ⟨w2.heap.size, 1, none⟩ pv3).setCell ⟨w2.heap.size, 2, none⟩ (.int .i64 0)).setCell ⟨w2.heap.size, 3, none⟩ (.int .i64 s3.code)) w2.heap.size rv3 pv3 (.int .i64 0) (.int .i64 s3.code)) := C3.put4 _ _ _ _
            have FF : Hid (∀ o, ((((w3.setCell ⟨w2.heap.size, 0, none⟩ rv3).setCell ⟨w2.heap.size, 1, none⟩ pv3).setCell ⟨w2.heap.size, 2, none⟩ (.int .i64 0)).setCell ⟨w2.heap.size, 3, none⟩ (.int .i64 s3.code)).frozen? ⟨w2.heap.size, o, none⟩ = false) := fun o => by simpa using F3.out o
            have KF : Hid (Kq (w2.heap.size + 2) [w2.heap.size, w2.heap.size + 1] X ((((w3.setCell ⟨w2.heap.size, 0, none⟩ rv3).setCell ⟨w2.heap.size, 1, none⟩ pv3).setCell ⟨w2.heap.size, 2, none⟩ (.int .i64 0)).setCell ⟨w2.heap.size, 3, none⟩ (.int .i64 s3.code))) := KK.trans (TF.kq hs3 (by simp))
            have f3 := F3.out
            obtain ⟨_, g0, g1, g2, g3⟩ := C3
            clear TF KK K3 K3' H3 e0 e1 e2 e3 fr v0 v1 v2 v3
            have HRV3 : Hid (rv3 = .slice ar3 s3.reads.length cr3) := hrv3
            have HPV3 : Hid (pv3 = .slice ap3 s3.puts.length cp3) := hpv3
            rw [hrv3, hpv3] at HF CF FF KF ⊢
            clear hrv3 hpv3
            go_wp2
            go_roundw
            case rel => exact ⟨k + 1, s3, _, _, by go_num, HF, CF, FF, E', I', KF, by show _ ≤ _; omega⟩
            case measure => simp [intOf]; omega
        · have EE : Hid (execRun bs xs = ⟨s.reads, s.puts, s.regs.getD 0 0, 0⟩) := by
            show _ = _
            rw [ER.out, ← ERk.out, run_end hlt]
            unfold outR
            rw [if_pos HC.out]
          have rga := HH.out.regs.2 0 (by rw [HH.out.four]; omega)
          rw [Nat.zero_add] at rga
          have hki : ¬ (k : Int) < (xs.length : Int) := by omega
          obtain ⟨_, z0, z1, z2, z3⟩ := ZR.out
          have fz := FZR.out
          have FN : Hid (∀ W', Turned [w.heap.size, w2.heap.size] wr W' → RunPost (execRun bs xs) w.heap.size (.returned (.agg #[.slice arr s.reads.length crr, .slice app s.puts.length cpp, .int .i64 (s.regs.getD 0 0), .int .i64 0])) W' ∧ Below w.heap.size w W') := fun W' ht => by
            have := FIN.out W' rv pv _ EE.out (HH.out.reads.lower (by omega)) (HH.out.puts.lower (by omega)) HH.out.apart lRd.out lPt.out ht
            rw [← HRV.out, ← HPV.out]
            exact this
          have hnn : ¬ w.heap.size = w2.heap.size := by omega
          have hnn' : ¬ w2.heap.size = w.heap.size := by omega
          clear FIN EE
          generalize s.regs.getD 0 0 = x at rga FN
          go_wp2
          refine bodyPost_ret (v := .agg #[.slice arr s.reads.length crr, .slice app s.puts.length cpp, .int .i64 x, .int .i64 0]) (by simp [results, Try.results18, go_sem, z0, z1, z2, z3, hnn, hnn']) rfl ?_
          refine FN.out _ ?_
          iterate 5 refine Turned.set ?_ (by simp) _
          exact Turned.refl _ _
      · have EE : Hid (execRun bs xs = ⟨s.reads, [], 0, s.code⟩) := by
          show _ = _
          rw [ER.out, ← ERk.out, run_stop hc]
          unfold outR
          rw [if_neg hc]
        obtain ⟨_, z0, z1, z2, z3⟩ := ZR.out
        have fz := FZR.out
        have FN : Hid (∀ W', Turned [w.heap.size, w2.heap.size] wr W' → RunPost (execRun bs xs) w.heap.size (.returned (.agg #[.slice arr s.reads.length crr, .slice none 0 0, .int .i64 0, .int .i64 s.code])) W' ∧ Below w.heap.size w W') := fun W' ht => by
          have := FIN.out W' rv (.slice none 0 0) _ EE.out (HH.out.reads.lower (by omega)) (OwnP.nil _ _ _) (by cases rv.ownBlock with | none => exact .inl rfl | some g => exact .inr (by simp [Value.ownBlock])) lRd.out (fun g e => by cases e) ht
          rw [← HRV.out]
          exact this
        have hnn : ¬ w.heap.size = w2.heap.size := by omega
        have hnn' : ¬ w2.heap.size = w.heap.size := by omega
        have hcb : (s.code == 0) = false := by simpa using hc
        clear FIN EE
        generalize s.code = cd at e3 FN hcb hc
        by_cases hlt : k < xs.length
        · have hki : (k : Int) < (xs.length : Int) := by omega
          go_wp2
          refine bodyPost_ret (v := .agg #[.slice arr s.reads.length crr, .slice none 0 0, .int .i64 0, .int .i64 cd]) (by simp [results, Try.results18, go_sem, z0, z1, z2, z3, hnn, hnn']) rfl ?_
          refine FN.out _ ?_
          iterate 5 refine Turned.set ?_ (by simp) _
          exact Turned.refl _ _
        · have hki : ¬ (k : Int) < (xs.length : Int) := by omega
          go_wp2
          refine bodyPost_ret (v := .agg #[.slice arr s.reads.length crr, .slice none 0 0, .int .i64 0, .int .i64 cd]) (by simp [results, Try.results18, go_sem, z0, z1, z2, z3, hnn, hnn']) rfl ?_
          refine FN.out _ ?_
          iterate 5 refine Turned.set ?_ (by simp) _
          exact Turned.refl _ _
end Go.Proofs.Ytiibonnchmphcaa.Own

namespace Go.Proofs.Ytiibonnchmphcaa.Own
open Go.RowKit

set_option maxHeartbeats 1000000 in
theorem eqIntS (a1 a2 : Option Addr) (c1 c2 : Nat) (xs ys : List Int) (w : World) (h1 : SlI w a1 xs) (h2 : SlI w a2 ys) (l1 : xs.length ≤ 2 ^ 40) (l2 : ys.length ≤ 2 ^ 40) :
    Calls Try.prog 58 #[.slice a1 xs.length c1, .slice a2 ys.length c2] w fun e w' => e = .returned (.bool (xs == ys)) ∧ Below w.heap.size w w' := by
  have H1 : Hid (SlI w a1 xs) := h1
  have H2 : Hid (SlI w a2 ys) := h2
  clear h1 h2
  by_cases hl : xs.length = ys.length
  · have hl' : ((xs.length : Int) != (ys.length : Int)) = false := by simp [hl]
    have Hl : Hid (xs.length = ys.length) := hl
    clear hl
    go_enter Try.func58, Try.ntmps58
    go_wp2
    go_loopw [5] (fun i wr => ∃ k : Nat, k ≤ xs.length ∧ i = .int .i64 k ∧ Hid (xs.take k = ys.take k) ∧ Below w.heap.size w wr) (fun i _ => xs.length - (intOf i).toNat)
    case atStart => exact ⟨0, Nat.zero_le _, rfl, rfl, Below.refl _ _⟩
    case round =>
      obtain ⟨k, hk, rfl, hE, hB⟩ := hrel
      by_cases hlt : k < xs.length
      · have hlt2 : k < ys.length := by rw [← Hl.out]; exact hlt
        rcases H1.out with h | ⟨b1, o1, rfl, h1⟩
        · subst h; simp at hlt
        rcases H2.out with h | ⟨b2, o2, rfl, h2⟩
        · subst h; simp at hlt2
        have H1' : Hid (IntAt w b1 o1 xs) := h1
        have H2' : Hid (IntAt w b2 o2 ys) := h2
        clear h1 h2
        have HT : Hid ((xs.take (k + 1) = ys.take (k + 1)) ↔ (xs.getD k 0 = ys.getD k 0)) := by
          unfold Hid; rw [take_succ_eqG 0 hlt hlt2]; exact ⟨fun h => h.2, fun h => ⟨hE, h⟩⟩
        have ca := H1'.out.2 k hlt
        have cb := H2'.out.2 k hlt2
        rw [← hB.cell H1'.out.1] at ca
        rw [← hB.cell H2'.out.1] at cb
        have HB : Hid (Below w.heap.size w wr) := hB
        have HP := fun (h : xs.getD k 0 ≠ ys.getD k 0) => ne_of_getDG (k := k) (0 : Int) h
        have HP' : Hid (xs.getD k 0 ≠ ys.getD k 0 → (xs == ys) = false) := HP
        clear hB HP
        generalize xs.getD k 0 = p at ca HT HP'
        generalize ys.getD k 0 = q at cb HT HP'
        by_cases hpq : p = q
        · have N : Hid (xs.take (k + 1) = ys.take (k + 1)) := HT.out.2 hpq
          have hpq' : (p != q) = false := by simp [hpq]
          have HX : Hid (p = q) := hpq
          clear hpq
          go_wp2
          go_quiet (fail)
          go_wp2
          go_roundw
          case rel => exact ⟨k + 1, by omega, by go_num, N, below_drewN HB.out _⟩
          case measure => simp [intOf]; omega
        · have F : Hid ((xs == ys) = false) := HP'.out hpq
          have hpq' : (p != q) = true := by simp [hpq]
          clear hpq
          go_wp2
          go_quiet (fail)
          go_wp2
          go_ret
          exact ⟨ret_bool F.out.symm, below_drewN HB.out _⟩
      · go_wp2
        go_ret
        have : k = xs.length := by omega
        subst this
        refine ⟨ret_bool ?_, hB⟩
        have h := hE
        unfold Hid at h
        rw [List.take_length] at h
        have h3 := Hl.out
        rw [List.take_of_length_le (by omega)] at h
        simp [h]
  · have hl' : ((xs.length : Int) != (ys.length : Int)) = true := by simp; omega
    go_enter Try.func58, Try.ntmps58
    go_wp2
    go_ret
    refine ⟨ret_bool ?_, Below.refl _ _⟩
    symm
    simp
    intro h; exact hl (by rw [h])

set_option maxHeartbeats 1000000 in
theorem markIntS (b off n c : Nat) (k : Int) (w : World) (hn : n ≤ 2 ^ 40) (hk0 : 0 ≤ k) (hk : k ≤ 2 ^ 40) (hfr : ∀ o, w.frozen? ⟨b, o, none⟩ = false) (hcell : ∀ i, i < n → ∃ v, w.cell? ⟨b, off + i, none⟩ = some v ∧ v.oneCell' = true) (hb : b < w.heap.size) :
    Calls Try.prog 61 #[.slice (some ⟨b, off, none⟩) n c, .int .i64 k] w fun e w' => e = .returned (.int .i64 (k + n)) ∧ IntAt w' b off (marks1 k n) ∧ Only b w w' := by
  have HC : Hid (∀ i, i < n → ∃ v, w.cell? ⟨b, off + i, none⟩ = some v ∧ v.oneCell' = true) := hcell
  have HF : Hid (∀ o, w.frozen? ⟨b, o, none⟩ = false) := hfr
  clear hcell hfr
  go_enter Try.func61, Try.ntmps61
  go_wp2
  go_loopw [1, 5] (fun q i wr => ∃ j : Nat, j ≤ n ∧ i = .int .i64 j ∧ q = .int .i64 (k + j) ∧ IntAt wr b off (marks1 k j) ∧ (∀ i, j ≤ i → wr.cell? ⟨b, off + i, none⟩ = w.cell? ⟨b, off + i, none⟩) ∧ Only b w wr) (fun _ i _ => n - (intOf i).toNat)
  case atStart => exact ⟨0, Nat.zero_le _, rfl, by simp, ⟨hb, by simp [marks1]⟩, fun _ _ => rfl, Only.refl _ _⟩
  case round =>
    obtain ⟨j, hj, rfl, rfl, hat, hrest, ho⟩ := hrel
    by_cases hlt : j < n
    · obtain ⟨v1, hv1, hv1'⟩ := HC.out j (by omega)
      have c1 : wr.cell? ⟨b, off + j, none⟩ = some v1 := by rw [hrest _ (by omega)]; exact hv1
      have f1 : wr.frozen? ⟨b, off + j, none⟩ = false := by rw [ho.frozen]; exact HF.out _
      have HR : Hid (∀ i, j ≤ i → wr.cell? ⟨b, off + i, none⟩ = w.cell? ⟨b, off + i, none⟩) := hrest
      have HA : Hid (IntAt wr b off (marks1 k j)) := hat
      clear hrest hat hv1
      go_wp2
      go_roundw
      case rel =>
        refine ⟨j + 1, by omega, by go_num, ?_, ?_, ?_, ho.setCell _⟩
        · go_num
        · refine ⟨by simpa [World.setCell] using HA.out.1, fun i hi => ?_⟩
          rw [marks1_length] at hi
          rw [marks1_getD _ _ _ hi]
          by_cases e : i = j
          · subst e
            exact setCell_cell_same _ _ _ _ _ c1
          · have := HA.out.2 i (by rw [marks1_length]; omega)
            rw [marks1_getD _ _ _ (by omega)] at this
            rw [setCell_cell_other _ _ _ _ _ (by omega)]
            exact this
        · intro i hi
          rw [setCell_cell_other _ _ _ _ _ (by omega)]
          exact HR.out i (by omega)
      case measure => simp [intOf]; omega
    · go_wp2
      go_ret
      have : j = n := by omega
      subst this
      exact ⟨rfl, hat, ho⟩

set_option maxHeartbeats 1000000 in
theorem heldIntS (b off n c : Nat) (k : Int) (w : World) (hn : n ≤ 2 ^ 40) (hk0 : 0 ≤ k) (hk : k ≤ 2 ^ 40) (hat : IntAt w b off (marks1 k n)) :
    Calls Try.prog 62 #[.slice (some ⟨b, off, none⟩) n c, .int .i64 k] w fun e w' => e = .returned (.int .i64 (k + n)) ∧ w' = w := by
  have HA : Hid (IntAt w b off (marks1 k n)) := hat
  clear hat
  go_enter Try.func62, Try.ntmps62
  go_wp2
  go_loop [1, 5] (fun q i => ∃ j : Nat, j ≤ n ∧ i = .int .i64 j ∧ q = .int .i64 (k + j)) (fun _ i => n - (intOf i).toNat)
  case atStart => exact ⟨0, Nat.zero_le _, rfl, by simp⟩
  case round =>
    obtain ⟨j, hj, rfl, rfl⟩ := hrel
    by_cases hlt : j < n
    · have c1 := HA.out.2 j (by rw [marks1_length]; exact hlt)
      rw [marks1_getD _ _ _ hlt] at c1
      go_wp2
      go_round
      case rel => exact ⟨j + 1, by omega, by go_num, by go_num⟩
      case measure => simp [intOf]; omega
    · go_wp2
      go_ret
      have : j = n := by omega
      subst this
      exact ⟨rfl, rfl⟩

theorem markIntS0 (a : Option Addr) (c : Nat) (k : Int) (w : World) :
    Calls Try.prog 61 #[.slice a 0 c, .int .i64 k] w fun e w' => e = .returned (.int .i64 k) ∧ w' = w := by
  go_enter Try.func61, Try.ntmps61
  go_wp2
  go_loop [1, 5] (fun q i => i = .int .i64 0 ∧ q = .int .i64 k) (fun _ i => 0)
  case atStart => exact ⟨rfl, rfl⟩
  case round =>
    obtain ⟨rfl, rfl⟩ := hrel
    go_wp2
    go_ret
    exact ⟨rfl, rfl⟩

theorem heldIntS0 (a : Option Addr) (c : Nat) (k : Int) (w : World) :
    Calls Try.prog 62 #[.slice a 0 c, .int .i64 k] w fun e w' => e = .returned (.int .i64 k) ∧ w' = w := by
  go_enter Try.func62, Try.ntmps62
  go_wp2
  go_loop [1, 5] (fun q i => i = .int .i64 0 ∧ q = .int .i64 k) (fun _ i => 0)
  case atStart => exact ⟨rfl, rfl⟩
  case round =>
    obtain ⟨rfl, rfl⟩ := hrel
    go_wp2
    go_ret
    exact ⟨rfl, rfl⟩
end Go.Proofs.Ytiibonnchmphcaa.Own

namespace Go.Proofs.Ytiibonnchmphcaa.Own
open Go.RowKit
set_option linter.unusedVariables false

/-- v is a slice of the numbers ys, its memory from B on its own. -/
def OwnI (w : World) (B : Nat) (v : Value) (ys : List Int) : Prop := w.ownsRow B 3 1 v ys.length (ys.map (Value.int .i64))

theorem OwnI.keep {w w' : World} {B : Nat} {v : Value} {ys : List Int} (h : OwnI w B v ys) (hb : Below w.heap.size w w') : OwnI w' B v ys := by
  obtain ⟨h1, h2⟩ := h
  refine ⟨h1, ?_⟩
  rcases h2 with h2 | ⟨g, cap, cur, hv, hg, hh, r⟩
  · exact .inl h2
  · exact .inr ⟨g, cap, cur, hv, hg, by rw [hb.block g (Array.getElem?_eq_some_iff.1 hh).1]; exact hh, r⟩

theorem OwnI.only {w w' : World} {B c : Nat} {v : Value} {ys : List Int} (h : OwnI w B v ys) (ho : Only c w w') (hc : c < B) : OwnI w' B v ys := by
  obtain ⟨h1, h2⟩ := h
  refine ⟨h1, ?_⟩
  rcases h2 with h2 | ⟨g, cap, cur, hv, hg, hh, r⟩
  · exact .inl h2
  · exact .inr ⟨g, cap, cur, hv, hg, by rw [ho.block g (by omega)]; exact hh, r⟩

theorem OwnI.open {w : World} {B : Nat} {v : Value} {ys : List Int} (h : OwnI w B v ys) : ∃ a cap, v = .slice a ys.length cap ∧ SlI w a ys ∧ ys.length ≤ cap := by
  obtain ⟨h1, h2⟩ := h
  rcases h2 with ⟨hv, h0⟩ | ⟨g, cap, cur, hv, hg, hh, hmc, hml, hsz, htk⟩
  · refine ⟨none, 0, by rw [hv, h0], .inl (List.eq_nil_of_length_eq_zero h0), by omega⟩
  · refine ⟨some ⟨g, 0, none⟩, cap, hv, .inr ⟨g, 0, rfl, (Array.getElem?_eq_some_iff.1 hh).1, fun i hi => ?_⟩, hmc⟩
    rw [Nat.zero_add, cell_heap hh]
    have e : (cur.toList.take (ys.length * 1))[i]? = some (.int .i64 (ys.getD i 0)) := by
      rw [htk, List.getElem?_map]; simp [List.getD, hi]
    rw [List.getElem?_take_of_lt (by omega)] at e
    simpa using e

/-- v's numbers have been marked from 1 on. -/
def HeldI (w : World) (B : Nat) (v : Value) (n : Nat) : Prop := ∃ a cap, v = .slice a n cap ∧ (n = 0 ∨ ∃ g, a = some ⟨g, 0, none⟩ ∧ B ≤ g ∧ IntAt w g 0 (marks1 1 n))
theorem HeldI.keep {w w' : World} {B n : Nat} {v : Value} (h : HeldI w B v n) (hb : Below w.heap.size w w') : HeldI w' B v n := by
  obtain ⟨a, cap, hv, h⟩ := h
  refine ⟨a, cap, hv, ?_⟩
  rcases h with h | ⟨g, ha, hg, h⟩
  · exact .inl h
  · exact .inr ⟨g, ha, hg, h.below hb⟩

theorem eqOwn (v1 v2 : Value) (B1 B2 : Nat) (ys : List Int) (w : World) (h1 : OwnI w B1 v1 ys) (h2 : OwnI w B2 v2 ys) (hl : ys.length ≤ 2 ^ 40) :
    Calls Try.prog 58 #[v1, v2] w fun e w' => e = .returned (.bool true) ∧ Below w.heap.size w w' := by
  obtain ⟨a1, c1, rfl, s1, _⟩ := h1.open
  obtain ⟨a2, c2, rfl, s2, _⟩ := h2.open
  refine (eqIntS a1 a2 c1 c2 ys ys w s1 s2 hl hl).mono ?_
  rintro e w' ⟨rfl, hb⟩
  exact ⟨by simp, hb⟩

theorem markOwn (v : Value) (B : Nat) (ys : List Int) (w : World) (h : OwnI w B v ys) (hl : ys.length ≤ 2 ^ 40) (hB : B ≤ w.heap.size) :
    Calls Try.prog 61 #[v, .int .i64 1] w fun e w' => e = .returned (.int .i64 (1 + ys.length)) ∧ HeldI w' B v ys.length ∧ Below B w w' := by
  obtain ⟨h1, h2⟩ := h
  rcases h2 with ⟨hv, h0⟩ | ⟨g, cap, cur, hv, hg, hh, hmc, hml, hsz, htk⟩
  · subst hv
    refine (markIntS0 none 0 1 w).mono ?_
    rintro e w' ⟨rfl, rfl⟩
    exact ⟨by rw [h0]; rfl, ⟨none, 0, by rw [h0], .inl h0⟩, Below.refl _ _⟩
  · subst hv
    have hc : ∀ i, i < ys.length → ∃ v, w.cell? ⟨g, 0 + i, none⟩ = some v ∧ v.oneCell' = true := by
      intro i hi
      rw [Nat.zero_add, cell_heap hh]
      have e : (cur.toList.take (ys.length * 1))[i]? = some (.int .i64 (ys.getD i 0)) := by
        rw [htk, List.getElem?_map]; simp [List.getD, hi]
      rw [List.getElem?_take_of_lt (by omega)] at e
      exact ⟨_, by simpa using e, rfl⟩
    refine (markIntS g 0 ys.length cap 1 w hl (by decide) (by decide) (fun o => frozen_heap hh o) hc (Array.getElem?_eq_some_iff.1 hh).1).mono ?_
    rintro e w' ⟨rfl, hat, ho⟩
    exact ⟨rfl, ⟨_, _, rfl, .inr ⟨g, rfl, hg, hat⟩⟩, ho.below hg⟩

theorem heldOwn (v : Value) (B n : Nat) (w : World) (h : HeldI w B v n) (hl : n ≤ 2 ^ 40) :
    Calls Try.prog 62 #[v, .int .i64 1] w fun e w' => e = .returned (.int .i64 (1 + n)) ∧ w' = w := by
  obtain ⟨a, cap, rfl, h⟩ := h
  rcases h with rfl | ⟨g, rfl, hg, h⟩
  · refine (heldIntS0 a cap 1 w).mono ?_
    rintro e w' ⟨rfl, rfl⟩
    exact ⟨rfl, rfl⟩
  · exact heldIntS g 0 n cap 1 w hl (by decide) (by decide) h
end Go.Proofs.Ytiibonnchmphcaa.Own

namespace Go.Proofs.Ytiibonnchmphcaa.Own
open Go.RowKit
set_option linter.unusedVariables false

theorem OwnI.turned {L : List Nat} {w w' : World} {B : Nat} {v : Value} {xs : List Int} (h : OwnI w B v xs) (ht : Turned L w w') (hv : ∀ g, v.ownBlock = some g → g ∉ L) : OwnI w' B v xs := by
  obtain ⟨h1, h2⟩ := h
  refine ⟨h1, ?_⟩
  rcases h2 with h2 | ⟨g, cap, cur, e, hg, hh, r⟩
  · exact .inl h2
  · exact .inr ⟨g, cap, cur, e, hg, by rw [ht.block g (Array.getElem?_eq_some_iff.1 hh).1 (hv g (by rw [e]; rfl))]; exact hh, r⟩
theorem IntAt.setOff {w : World} {b off : Nat} {xs : List Int} (h : IntAt w b off xs) (i : Nat) (hi : i < xs.length) (n : Int) : IntAt (w.setCell ⟨b, off + i, none⟩ (.int .i64 n)) b off (xs.set i n) := by
  refine ⟨by simpa [World.setCell] using h.1, fun j hj => ?_⟩
  rw [List.length_set] at hj
  have hx := h.2 j hj
  by_cases e : i = j
  · subst e
    rw [setCell_cell_same _ _ _ _ _ hx]
    simp [List.getD, hi]
  · rw [setCell_cell_other _ _ _ _ _ (by omega), hx]
    simp [List.getD, e]
theorem IntAt.far {w : World} {b off o : Nat} {xs : List Int} (h : IntAt w b off xs) (ho : o < off ∨ off + xs.length ≤ o) (v : Value) : IntAt (w.setCell ⟨b, o, none⟩ v) b off xs :=
  ⟨by simpa [World.setCell] using h.1, fun j hj => by rw [setCell_cell_other _ _ _ _ _ (by omega)]; exact h.2 j hj⟩
theorem BoxAt.far {w : World} {b off o : Nat} {xs : List P2} (h : BoxAt w b off xs) (ho : o < off ∨ off + xs.length * 2 ≤ o) (v : Value) : BoxAt (w.setCell ⟨b, o, none⟩ v) b off xs :=
  ⟨by simpa [World.setCell] using h.1, fun j hj => by rw [setCell_cell_other _ _ _ _ _ (by omega), setCell_cell_other _ _ _ _ _ (by omega)]; exact h.2 j hj⟩

/-- A run of impl's under way: its block nb, its map bm, the instruction that is next. -/
structure Now (B nb bm : Nat) (w : World) (bs : List P2) (k N : Nat) (s : RunSt) (rv ov : Value) : Prop where
  boxes : BoxAt w nb 0 bs
  len : bs.length = 4
  regs : IntAt w nb 8 s.regs
  four : s.regs.length = 4
  next : w.cell? ⟨nb, 12, none⟩ = some (.int .i64 (k : Int))
  looked : ∀ i, i < 4 → w.cell? ⟨nb, 13 + i, none⟩ = some (.bool (hasBox s.reads i))
  rdc : w.cell? ⟨nb, 17, none⟩ = some rv
  mpc : w.cell? ⟨nb, 18, none⟩ = some (.map (some bm))
  odc : w.cell? ⟨nb, 19, none⟩ = some ov
  free : ∀ o, w.frozen? ⟨nb, o, none⟩ = false
  reads : OwnP 38 w B rv s.reads
  order : OwnI w B ov (s.puts.map Prod.fst)
  map : MapP w bm N s.puts
  apart : rv.ownBlock = none ∨ rv.ownBlock ≠ ov.ownBlock
  lt : nb < B ∧ bm < B ∧ nb ≠ bm

def NowE (B nb bm : Nat) (w : World) (bs : List P2) (k N : Nat) (s : RunSt) : Prop := ∃ rv ov, Now B nb bm w bs k N s rv ov
/-- What is left of a run that has ended: what it looked into. -/
def Left (B nb : Nat) (w : World) (xs : List P2) : Prop := ∃ rv, w.cell? ⟨nb, 17, none⟩ = some rv ∧ OwnP 38 w B rv xs ∧ nb < B ∧ nb < w.heap.size

theorem Now.turned {L : List Nat} {B nb bm : Nat} {w w' : World} {bs : List P2} {k N : Nat} {s : RunSt} {rv ov : Value} (h : Now B nb bm w bs k N s rv ov) (ht : Turned L w w') (h1 : nb ∉ L) (h2 : bm ∉ L) (h3 : ∀ g, rv.ownBlock = some g → g ∉ L) (h4 : ∀ g, ov.ownBlock = some g → g ∉ L) : Now B nb bm w' bs k N s rv ov := by
  have e : ∀ o, w'.cell? ⟨nb, o, none⟩ = w.cell? ⟨nb, o, none⟩ := fun o => World.cell?_of_block (w := w) (a := ⟨nb, o, none⟩) (ht.block nb h.boxes.1 h1)
  exact ⟨h.boxes.turned ht h1, h.len, h.regs.turned ht h1, h.four, by rw [e]; exact h.next, fun i hi => by rw [e]; exact h.looked i hi, by rw [e]; exact h.rdc, by rw [e]; exact h.mpc, by rw [e]; exact h.odc,
    fun o => by rw [World.frozen?_of_block (w := w) (a := ⟨nb, o, none⟩) (ht.block nb h.boxes.1 h1)]; exact h.free o, h.reads.turned ht h3, h.order.turned ht h4, h.map.block (ht.block bm h.map.lt h2), h.apart, h.lt⟩
theorem Now.below {B nb bm : Nat} {w w' : World} {bs : List P2} {k N : Nat} {s : RunSt} {rv ov : Value} (h : Now B nb bm w bs k N s rv ov) (ht : Below w.heap.size w w') : Now B nb bm w' bs k N s rv ov :=
  h.turned (L := []) (Turned.ofBelow ht) (by simp) (by simp) (by simp) (by simp)
theorem Now.mono {B nb bm : Nat} {w : World} {bs : List P2} {k N N' : Nat} {s : RunSt} {rv ov : Value} (h : Now B nb bm w bs k N s rv ov) (hn : N ≤ N') : Now B nb bm w bs k N' s rv ov :=
  ⟨h.boxes, h.len, h.regs, h.four, h.next, h.looked, h.rdc, h.mpc, h.odc, h.free, h.reads, h.order, h.map.mono hn, h.apart, h.lt⟩
theorem Now.own {B nb bm : Nat} {w : World} {bs : List P2} {k N : Nat} {s : RunSt} {rv ov : Value} (h : Now B nb bm w bs k N s rv ov) : (∀ g, rv.ownBlock = some g → B ≤ g ∧ g < w.heap.size) ∧ (∀ g, ov.ownBlock = some g → B ≤ g ∧ g < w.heap.size) :=
  ⟨fun g e => World.ownsRow.lt h.reads g e, fun g e => World.ownsRow.lt h.order g e⟩
theorem Now.reg {B nb bm : Nat} {w : World} {bs : List P2} {k N : Nat} {s : RunSt} {rv ov : Value} (h : Now B nb bm w bs k N s rv ov) (a : Nat) (ha : a < 4) (n : Int) : Now B nb bm (w.setCell ⟨nb, 8 + a, none⟩ (.int .i64 n)) bs k N (setReg s a n) rv ov := by
  have e : Turned [nb] w (w.setCell ⟨nb, 8 + a, none⟩ (.int .i64 n)) := (Turned.refl _ _).set (by simp) _
  obtain ⟨o1, o2⟩ := h.own
  obtain ⟨l1, l2, l3⟩ := h.lt
  refine ⟨h.boxes.far (.inr (by rw [h.len]; omega)) _, h.len, h.regs.setOff a (by rw [h.four]; exact ha) n, by simp [setReg, h.four], ?_, fun i hi => ?_, ?_, ?_, ?_, fun o => by simpa using h.free o, h.reads.turned e (fun g eg => ?_), h.order.turned e (fun g eg => ?_), h.map.block (e.block bm h.map.lt (by simp; omega)), h.apart, h.lt⟩
  · rw [setCell_cell_other _ _ _ _ _ (by omega)]; exact h.next
  · rw [setCell_cell_other _ _ _ _ _ (by omega)]; exact h.looked i hi
  · rw [setCell_cell_other _ _ _ _ _ (by omega)]; exact h.rdc
  · rw [setCell_cell_other _ _ _ _ _ (by omega)]; exact h.mpc
  · rw [setCell_cell_other _ _ _ _ _ (by omega)]; exact h.odc
  · have := o1 g eg; simp; omega
  · have := o2 g eg; simp; omega
theorem Now.step {B nb bm : Nat} {w : World} {bs : List P2} {k N : Nat} {s : RunSt} {rv ov : Value} (h : Now B nb bm w bs k N s rv ov) (k' : Nat) : Now B nb bm (w.setCell ⟨nb, 12, none⟩ (.int .i64 (k' : Int))) bs k' N s rv ov := by
  have e : Turned [nb] w (w.setCell ⟨nb, 12, none⟩ (.int .i64 (k' : Int))) := (Turned.refl _ _).set (by simp) _
  obtain ⟨o1, o2⟩ := h.own
  obtain ⟨l1, l2, l3⟩ := h.lt
  refine ⟨h.boxes.far (.inr (by rw [h.len]; omega)) _, h.len, h.regs.far (.inr (by rw [h.four]; omega)) _, h.four, setCell_cell_same _ _ _ _ _ h.next, fun i hi => ?_, ?_, ?_, ?_, fun o => by simpa using h.free o, h.reads.turned e (fun g eg => ?_), h.order.turned e (fun g eg => ?_), h.map.block (e.block bm h.map.lt (by simp; omega)), h.apart, h.lt⟩
  · rw [setCell_cell_other _ _ _ _ _ (by omega)]; exact h.looked i hi
  · rw [setCell_cell_other _ _ _ _ _ (by omega)]; exact h.rdc
  · rw [setCell_cell_other _ _ _ _ _ (by omega)]; exact h.mpc
  · rw [setCell_cell_other _ _ _ _ _ (by omega)]; exact h.odc
  · have := o1 g eg; simp; omega
  · have := o2 g eg; simp; omega
theorem Now.left {B nb bm : Nat} {w : World} {bs : List P2} {k N : Nat} {s : RunSt} {rv ov : Value} (h : Now B nb bm w bs k N s rv ov) : Left B nb w s.reads := ⟨rv, h.rdc, h.reads, h.lt.1, h.boxes.1⟩

/-- What an instruction leaves. -/
def DoPost (B nb bm : Nat) (bs : List P2) (k N : Nat) (s : RunSt) (p : Q4) (w : World) (e : Ending) (w' : World) : Prop :=
  Kq B [nb, bm] w w' ∧
    if p.1 = 6 then e = .returned (.tuple #[]) ∧ NowE B nb bm w' bs (if s.regs.getD p.2.1.toNat 0 < s.regs.getD p.2.2.1.toNat 0 then k + p.2.2.2.toNat else k) (N + 1) s
    else if (stepR bs s p).code = 0 then e = .returned (.tuple #[]) ∧ NowE B nb bm w' bs k (N + 1) (stepR bs s p)
    else e = thrown (stepR bs s p).code ∧ Left B nb w' (stepR bs s p).reads
end Go.Proofs.Ytiibonnchmphcaa.Own

namespace Go.Proofs.Ytiibonnchmphcaa.Own
open Go.RowKit
set_option linter.unusedVariables false
set_option linter.unusedSimpArgs false

set_option maxRecDepth 100000 in
set_option maxHeartbeats 2000000 in
theorem lessC (B nb bm : Nat) (bs : List P2) (k N : Nat) (s : RunSt) (rv ov : Value) (na nb' n : Nat) (w : World) (h : Now B nb bm w bs k N s rv ov) (hB : B ≤ w.heap.size) (ha : na < 4) (hb : nb' < 4) (hn : n ≤ 10) (hk : k ≤ 100) :
    Calls Try.prog 137 #[.pointer (some ⟨nb, 0, none⟩), .agg #[.int .i64 6, .int .i64 na, .int .i64 nb', .int .i64 n]] w fun e w' => e = .returned (.tuple #[]) ∧ Kq B [nb, bm] w w' ∧ NowE B nb bm w' bs (if s.regs.getD na 0 < s.regs.getD nb' 0 then k + n else k) N s := by
  obtain ⟨X, hX⟩ : ∃ X, X = w.alloc (.cells #[.int .i64 6, .int .i64 na, .int .i64 nb', .int .i64 n] 53) := ⟨_, rfl⟩
  have gX : X.heap[w.heap.size]? = some (.cells #[.int .i64 6, .int .i64 na, .int .i64 nb', .int .i64 n] 53 (0, 0)) := by rw [hX]; exact heap_new _ _
  have BX : Hid (Below w.heap.size w X) := by show Below _ _ _; rw [hX]; exact below_new _ _
  have HX : Hid (X = _) := hX
  have HN : Hid (Now B nb bm X bs k N s rv ov) := h.below BX.out
  have v1 : X.cell? ⟨w.heap.size, 1, none⟩ = some (.int .i64 na) := (cell_heap gX 1).trans rfl
  have v2 : X.cell? ⟨w.heap.size, 2, none⟩ = some (.int .i64 nb') := (cell_heap gX 2).trans rfl
  have v3 : X.cell? ⟨w.heap.size, 3, none⟩ = some (.int .i64 n) := (cell_heap gX 3).trans rfl
  have nx := HN.out.next
  have fr := HN.out.free 12
  have rga := HN.out.regs.2 na (by rw [HN.out.four]; exact ha)
  have rgb := HN.out.regs.2 nb' (by rw [HN.out.four]; exact hb)
  have hlt := h.lt
  have hai : (na : Int) < 4 := by omega
  have hbi : (nb' : Int) < 4 := by omega
  have E : Hid (∀ x y : Int, s.regs.getD na 0 = x → s.regs.getD nb' 0 = y → (if s.regs.getD na 0 < s.regs.getD nb' 0 then k + n else k) = (if x < y then k + n else k)) := fun x y h1 h2 => by rw [h1, h2]
  obtain ⟨x, hx⟩ : ∃ x, s.regs.getD na 0 = x := ⟨_, rfl⟩
  obtain ⟨y, hy⟩ : ∃ y, s.regs.getD nb' 0 = y := ⟨_, rfl⟩
  have E2 := E.out x y hx hy
  rw [hx] at rga
  rw [hy] at rgb
  obtain ⟨k', hk'⟩ : ∃ k' : Nat, k' = (if s.regs.getD na 0 < s.regs.getD nb' 0 then k + n else k) := ⟨_, rfl⟩
  rw [← hk']
  have E3 : Hid (k' = (if x < y then k + n else k)) := hk'.trans E2
  have wr : IntKind.i64.wrap ((k : Int) + (n : Int)) = (k : Int) + (n : Int) := by rw [IntKind.wrap_i64]; omega
  have nn : ¬ nb = w.heap.size := by omega
  have nn' : ¬ w.heap.size = nb := by omega
  have KX : Hid (Kq B [nb, bm] w X) := (Turned.ofBelow (L := []) BX.out).kq hB (by simp)
  have hBX : B ≤ X.heap.size := by have := BX.out.size; omega
  clear hX gX h hx hy E E2 hk'
  go_enter Try.func137, Try.ntmps137
  go_upto_region 1 with fail
  rw [← HX.out]
  go_quiet (fail)
  by_cases hl : x < y
  · go_upto_region 2 with fail
    refine region_still_tail 9 (by kernel_rfl) (by kernel_rfl) ?_
    simp only [List.take_succ_cons, List.take_zero, List.drop_succ_cons, List.drop_zero]
    iterate 9 still_step
    refine wpStill_nil ?_
    go_wp2
    go_end0
    refine ⟨rfl, KX.out.trans (Turned.kq (L' := [nb]) (((Turned.refl _ _).drewN _).drew.set (by simp) _) hBX (by simp)), rv, ov, ?_⟩
    rw [E3.out, if_pos hl]
    exact (HN.out.turned (w' := X.drewN (nq + 1)) (L := []) ((Turned.refl _ _).drewN _) (by simp) (by simp) (by simp) (by simp)).step (k + n)
  · go_wp2
    go_end0
    refine ⟨rfl, KX.out.trans (Turned.kq (L' := []) ((Turned.refl _ _).drewN _) hBX (by simp)), rv, ov, ?_⟩
    rw [E3.out, if_neg (by omega)]
    exact HN.out.turned (L := []) ((Turned.refl _ _).drewN _) (by simp) (by simp) (by simp) (by simp)

/-- What setting a register leaves. -/
def SetPost (B nb bm : Nat) (bs : List P2) (k N : Nat) (s : RunSt) (na : Nat) (v : Int) (w : World) (e : Ending) (w' : World) : Prop :=
  Kq B [nb, bm] w w' ∧ ((numOk v = true ∧ e = .returned (.tuple #[]) ∧ NowE B nb bm w' bs k N (setReg s na v)) ∨ (numOk v = false ∧ e = thrown 2 ∧ NowE B nb bm w' bs k N s))

theorem nowSet (B nb bm : Nat) (bs : List P2) (k N : Nat) (s : RunSt) (rv ov : Value) (na : Nat) (v : Int) (w : World) (h : Now B nb bm w bs k N s rv ov) (hB : B ≤ w.heap.size) (ha : na < 4) :
    Calls Try.prog 135 #[.pointer (some ⟨nb, 0, none⟩), .int .i64 na, .int .i64 v] w fun e w' => SetPost B nb bm bs k N s na v w e w' ∧ Turned [nb] w w' := by
  cases hv : numOk v with
  | true =>
    refine (setYes nb na v _ w ha (h.regs.2 na (by rw [h.four]; exact ha)) (h.free _) hv).mono ?_
    rintro e w' ⟨rfl, rfl⟩
    exact ⟨⟨Turned.kq (L' := [nb]) ((Turned.refl _ _).set (by simp) _) hB (by simp), .inl ⟨hv, rfl, rv, ov, h.reg na ha v⟩⟩, (Turned.refl _ _).set (by simp) _⟩
  | false =>
    refine (setNo nb na v w hv).mono ?_
    rintro e w' ⟨rfl, rfl⟩
    exact ⟨⟨Kq.refl _ _ _, .inr ⟨hv, rfl, rv, ov, h⟩⟩, Turned.refl _ _⟩

set_option maxRecDepth 100000 in
set_option maxHeartbeats 2000000 in
theorem addC (B nb bm : Nat) (bs : List P2) (k N : Nat) (s : RunSt) (rv ov : Value) (kd pn sg : Int) (na nb' : Nat) (w : World) (h : Now B nb bm w bs k N s rv ov) (hB : B ≤ w.heap.size) (ha : na < 4) (hb : nb' < 4) (hsg : sg = 1 ∨ sg = -1) (hnum : ∀ i, i < 4 → numOk (s.regs.getD i 0) = true) :
    Calls Try.prog 136 #[.pointer (some ⟨nb, 0, none⟩), .agg #[.int .i64 kd, .int .i64 na, .int .i64 nb', .int .i64 pn], .int .i64 sg] w fun e w' => SetPost B nb bm bs k N s na (s.regs.getD na 0 + sg * s.regs.getD nb' 0) w e w' := by
  obtain ⟨X, hX⟩ : ∃ X, X = w.alloc (.cells #[.int .i64 kd, .int .i64 na, .int .i64 nb', .int .i64 pn] 53) := ⟨_, rfl⟩
  have gX : X.heap[w.heap.size]? = some (.cells #[.int .i64 kd, .int .i64 na, .int .i64 nb', .int .i64 pn] 53 (0, 0)) := by rw [hX]; exact heap_new _ _
  have BX : Hid (Below w.heap.size w X) := by show Below _ _ _; rw [hX]; exact below_new _ _
  have HX : Hid (X = _) := hX
  have HN : Hid (Now B nb bm X bs k N s rv ov) := h.below BX.out
  have v1 : X.cell? ⟨w.heap.size, 1, none⟩ = some (.int .i64 na) := (cell_heap gX 1).trans rfl
  have v2 : X.cell? ⟨w.heap.size, 2, none⟩ = some (.int .i64 nb') := (cell_heap gX 2).trans rfl
  have rga := HN.out.regs.2 na (by rw [HN.out.four]; exact ha)
  have rgb := HN.out.regs.2 nb' (by rw [HN.out.four]; exact hb)
  have na1 := hnum na ha
  have nb1 := hnum nb' hb
  have hai : (na : Int) < 4 := by omega
  have hbi : (nb' : Int) < 4 := by omega
  have hBX : B ≤ X.heap.size := by have := BX.out.size; omega
  have KX : Hid (Kq B [nb, bm] w X) := (Turned.ofBelow (L := []) BX.out).kq hB (by simp)
  generalize s.regs.getD na 0 = x at rga na1 ⊢
  generalize s.regs.getD nb' 0 = y at rgb nb1 ⊢
  simp only [numOk, Bool.and_eq_true, decide_eq_true_eq] at na1 nb1
  obtain ⟨a0, a1⟩ := na1
  obtain ⟨b0, b1⟩ := nb1
  have hsy : -1000000 ≤ sg * y ∧ sg * y ≤ 1000000 := by rcases hsg with rfl | rfl <;> omega
  have wm : IntKind.i64.wrap (sg * y) = sg * y := by rw [IntKind.wrap_i64]; omega
  have wr : IntKind.i64.wrap (x + sg * y) = x + sg * y := by rw [IntKind.wrap_i64]; omega
  have SET : Hid (∀ u, Turned [] X u → Calls Try.prog 135 #[.pointer (some ⟨nb, 0, none⟩), .int .i64 na, .int .i64 (x + sg * y)] u fun e w' => SetPost B nb bm bs k N s na (x + sg * y) u e w') := fun u hu =>
    (nowSet B nb bm bs k N s rv ov na _ u (HN.out.turned hu (by simp) (by simp) (by simp) (by simp)) (Nat.le_trans hBX hu.size) ha).mono (fun _ _ h => h.1)
  clear hX gX h hnum hsy hsg
  go_enter Try.func136, Try.ntmps136
  go_upto_region 1 with fail
  rw [← HX.out]
  refine region_still_tail 20 (by kernel_rfl) (by kernel_rfl) ?_
  simp only [List.take_succ_cons, List.take_zero, List.drop_succ_cons, List.drop_zero]
  iterate 20 still_step
  refine wpStill_nil ?_
  go_wp2_with fail
  refine Calls.mono (SET.out _ (Turned.refl _ _).drew) ?_
  rintro e w1 ⟨K1, ⟨hv, rfl, hN⟩ | ⟨hv, rfl, hN⟩⟩
  · have F : Hid (SetPost B nb bm bs k N s na (x + sg * y) w (.returned (.tuple #[])) w1) := ⟨KX.out.trans ⟨K1.os, K1.tape, K1.output, K1.size, K1.block⟩, .inl ⟨hv, rfl, hN⟩⟩
    clear K1 hv hN
    go_wp2_with fail
    go_end0
    exact F.out
  · have F : Hid (SetPost B nb bm bs k N s na (x + sg * y) w (thrown 2) w1) := ⟨KX.out.trans ⟨K1.os, K1.tape, K1.output, K1.size, K1.block⟩, .inr ⟨hv, rfl, hN⟩⟩
    clear K1 hv hN
    exact ⟨rfl, F.out⟩
end Go.Proofs.Ytiibonnchmphcaa.Own

namespace Go.Proofs.Ytiibonnchmphcaa.Own
open Go.RowKit
set_option linter.unusedVariables false
set_option linter.unusedSimpArgs false

theorem inBox_puts {ys : List P2} {j : Nat} (h : hasBox ys j = true) (bs : List P2) : inBox bs ys j = inBox [] ys j := by unfold inBox; rw [if_pos h, if_pos h]
theorem hasBox_snoc (xs : List P2) (j i : Nat) (n : Int) : hasBox (xs ++ [((j : Int), n)]) i = (hasBox xs i || decide (j = i)) := by
  unfold hasBox
  rw [List.any_append]
  simp only [List.any_cons, List.any_nil, Bool.or_false]
  congr 1
  rw [Bool.eq_iff_iff]; simp only [beq_iff_eq, decide_eq_true_eq]; omega

/-- A box has been looked into. -/
theorem Now.look {B nb bm : Nat} {w w1 : World} {bs : List P2} {k N : Nat} {s : RunSt} {rv ov rv' : Value} {j : Nat} {ver : Int} (h : Now B nb bm w bs k N s rv ov) (hj : j < 4)
    (hg : (w.setCell ⟨nb, 13 + j, none⟩ (.bool true)).grownBy w1 rv.ownBlock) (ho : OwnP 38 w1 B rv' (s.reads ++ [((j : Int), ver)])) (hnew : ∀ g, rv'.ownBlock = some g → rv.ownBlock = some g ∨ w.heap.size ≤ g) (hB : B ≤ w.heap.size) :
    Now B nb bm (w1.setCell ⟨nb, 17, none⟩ rv') bs k N { s with reads := s.reads ++ [((j : Int), ver)] } rv' ov ∧ Kq B [nb, bm] w (w1.setCell ⟨nb, 17, none⟩ rv') ∧ Turned (nb :: rv.ownBlock.toList) w (w1.setCell ⟨nb, 17, none⟩ rv') := by
  obtain ⟨o1, o2⟩ := h.own
  obtain ⟨l1, l2, l3⟩ := h.lt
  have hs : (w.setCell ⟨nb, 13 + j, none⟩ (.bool true)).heap.size = w.heap.size := by simp [World.setCell]
  have nrv : rv.ownBlock ≠ some nb := fun e => by have := o1 nb e; omega
  have bn : w1.heap[nb]? = (w.setCell ⟨nb, 13 + j, none⟩ (.bool true)).heap[nb]? := hg.block nb (by rw [hs]; exact h.boxes.1) (fun e => nrv e.symm)
  have e1 : ∀ o, w1.cell? ⟨nb, o, none⟩ = (w.setCell ⟨nb, 13 + j, none⟩ (.bool true)).cell? ⟨nb, o, none⟩ := fun o => World.cell?_of_block (w := w.setCell ⟨nb, 13 + j, none⟩ (.bool true)) (a := ⟨nb, o, none⟩) bn
  have ek : ∀ o, o ≠ 13 + j → o ≠ 17 → (w1.setCell ⟨nb, 17, none⟩ rv').cell? ⟨nb, o, none⟩ = w.cell? ⟨nb, o, none⟩ := fun o ho h17 => by
    rw [setCell_cell_other _ _ _ _ _ (Ne.symm h17), e1, setCell_cell_other _ _ _ _ _ (Ne.symm ho)]
  have t0 : Turned [nb] w (w.setCell ⟨nb, 13 + j, none⟩ (.bool true)) := (Turned.refl _ _).set (by simp) _
  have t1 : Turned rv.ownBlock.toList (w.setCell ⟨nb, 13 + j, none⟩ (.bool true)) w1 := Turned.ofGrown hg (fun g e => by simp [e])
  have t2 : Turned [nb] w1 (w1.setCell ⟨nb, 17, none⟩ rv') := (Turned.refl _ _).set (by simp) _
  have hrv' : ∀ g, rv'.ownBlock = some g → B ≤ g := fun g e => by
    rcases hnew g e with h' | h'
    · exact (o1 g h').1
    · omega
  have tw : Turned (nb :: rv.ownBlock.toList) w (w1.setCell ⟨nb, 17, none⟩ rv') := ((t0.mono (by simp)).trans (t1.mono (by simp; intro x hx; exact .inr hx))).trans (t2.mono (by simp))
  have hs1 : w.heap.size ≤ w1.heap.size := by have := hg.size; rw [hs] at this; exact this
  refine ⟨⟨⟨by rw [show (w1.setCell ⟨nb, 17, none⟩ rv').heap.size = w1.heap.size by simp [World.setCell]]; exact Nat.lt_of_lt_of_le h.boxes.1 hs1, fun i hi => ?_⟩, h.len, ⟨by rw [show (w1.setCell ⟨nb, 17, none⟩ rv').heap.size = w1.heap.size by simp [World.setCell]]; exact Nat.lt_of_lt_of_le h.boxes.1 hs1, fun i hi => ?_⟩, h.four, ?_, fun i hi => ?_, ?_, ?_, ?_, fun o => ?_, ?_, ?_, ?_, ?_, h.lt⟩, ?_, tw⟩
  · rw [h.len] at hi
    rw [ek _ (by omega) (by omega), ek _ (by omega) (by omega)]; exact h.boxes.2 i (by rw [h.len]; exact hi)
  · have hi' : i < s.regs.length := hi
    have := h.four
    rw [ek _ (by omega) (by omega)]; exact h.regs.2 i hi'
  · rw [ek _ (by omega) (by omega)]; exact h.next
  · rw [hasBox_snoc]
    rw [setCell_cell_other _ _ _ _ _ (by omega), e1]
    by_cases e : j = i
    · subst e
      rw [setCell_cell_same _ _ _ _ _ (h.looked j hj)]; simp
    · rw [setCell_cell_other _ _ _ _ _ (by omega), h.looked i hi]; simp [e]
  · have c17 : w1.cell? ⟨nb, 17, none⟩ = some rv := by rw [e1, setCell_cell_other _ _ _ _ _ (by omega)]; exact h.rdc
    exact setCell_cell_same _ _ _ _ _ c17
  · rw [ek _ (by omega) (by omega)]; exact h.mpc
  · rw [ek _ (by omega) (by omega)]; exact h.odc
  · have f1 : w1.frozen? ⟨nb, o, none⟩ = (w.setCell ⟨nb, 13 + j, none⟩ (.bool true)).frozen? ⟨nb, o, none⟩ := World.frozen?_of_block (w := w.setCell ⟨nb, 13 + j, none⟩ (.bool true)) (a := ⟨nb, o, none⟩) bn
    have f2 : (w1.setCell ⟨nb, 17, none⟩ rv').frozen? ⟨nb, o, none⟩ = w1.frozen? ⟨nb, o, none⟩ := by simp
    rw [f2, f1]
    simpa using h.free o
  · exact ho.turned t2 (fun g e => by have := hrv' g e; simp; omega)
  · refine h.order.turned tw (fun g e => ?_)
    have := o2 g e
    simp only [List.mem_cons, Option.mem_toList, not_or]
    refine ⟨by omega, fun e' => ?_⟩
    rcases h.apart with h' | h'
    · rw [h'] at e'; cases e'
    · exact h' (by rw [e, e'])
  · refine h.map.block (tw.block bm h.map.lt ?_)
    simp only [List.mem_cons, Option.mem_toList, not_or]
    exact ⟨Ne.symm l3, fun e' => by have := o1 _ e'; omega⟩
  · cases hg' : rv'.ownBlock with
    | none => exact .inl rfl
    | some g =>
      refine .inr fun e => ?_
      rcases hnew g hg' with h' | h'
      · rcases h.apart with h'' | h''
        · rw [h''] at h'; cases h'
        · exact h'' (by rw [h', e])
      · have := o2 g e.symm; omega
  · exact tw.kq hB (fun x hx => by
      simp only [List.mem_cons, Option.mem_toList] at hx
      rcases hx with rfl | hx
      · exact .inl (by simp)
      · exact .inr (o1 x hx).1)

set_option maxRecDepth 100000 in
set_option maxHeartbeats 4000000 in
theorem lookC (B nb bm : Nat) (bs : List P2) (k N : Nat) (s : RunSt) (rv ov : Value) (j : Nat) (w : World) (h : Now B nb bm w bs k N s rv ov) (hB : B ≤ w.heap.size) (hj : j < 4) (lx : s.reads.length ≤ 1000) :
    Calls Try.prog 140 #[.pointer (some ⟨nb, 0, none⟩), .int .i64 j] w fun e w' => e = .returned (.int .i64 (inBox bs s.puts j)) ∧ (Kq B [nb, bm] w w' ∧ Turned (nb :: rv.ownBlock.toList) w w') ∧ NowE B nb bm w' bs k N { s with reads := lookR bs s.reads s.puts j } := by
  have HN : Hid (Now B nb bm w bs k N s rv ov) := h
  clear h
  have mpc := HN.out.mpc
  obtain ⟨c, hlk, hcv⟩ := HN.out.map.look_ok j hj
  have hji : (j : Int) < 4 := by omega
  cases hy : hasBox s.puts j with
  | true =>
    rw [hy] at hlk
    have ec : c = inBox bs s.puts j := (hcv hy).trans (inBox_puts hy bs).symm
    have EL : Hid (lookR bs s.reads s.puts j = s.reads) := by show _ = _; simp [lookR, hy]
    rw [← ec]
    clear ec hcv hy
    go_enter Try.func140, Try.ntmps140
    go_wp2_with fail
    go_ret
    exact ⟨rfl, ⟨Kq.refl _ _ _, Turned.refl _ _⟩, rv, ov, by rw [EL.out]; exact HN.out⟩
  | false =>
    rw [hy] at hlk
    have EI : Hid (inBox bs s.puts j = (bs.getD j (0, 0)).2) := by show _ = _; simp [inBox, hy]
    have cv := (HN.out.boxes.2 j (by rw [HN.out.len]; exact hj)).1
    have cl := (HN.out.boxes.2 j (by rw [HN.out.len]; exact hj)).2
    rw [← EI.out] at cl
    simp only [Nat.zero_add] at cv cl
    obtain ⟨ver, hver⟩ : ∃ z, z = (bs.getD j (0, 0)).1 := ⟨_, rfl⟩
    rw [← hver] at cv
    have HV : Hid (ver = (bs.getD j (0, 0)).1) := hver
    clear hver hcv
    cases hx : hasBox s.reads j with
    | true =>
      have EL : Hid (lookR bs s.reads s.puts j = s.reads) := by show _ = _; simp [lookR, hy, hx]
      have FT : Hid (Calls Try.prog 117 #[.pointer (some ⟨nb, 13, none⟩), .int .i64 j] w fun e w' => e = .returned (.bool false) ∧ w' = w) := firstTwice nb 13 j w hj (by rw [HN.out.looked j hj, hx])
      clear hx hy
      go_enter Try.func140, Try.ntmps140
      go_wp2_with fail
      refine Calls.mono FT.out ?_
      rintro e w1 ⟨rfl, hw⟩
      rw [hw]
      clear hw
      go_wp2_with fail
      go_ret
      exact ⟨rfl, ⟨Kq.refl _ _ _, Turned.refl _ _⟩, rv, ov, by rw [EL.out]; exact HN.out⟩
    | false =>
      have EL : Hid (lookR bs s.reads s.puts j = s.reads ++ [((j : Int), ver)]) := by show _ = _; rw [HV.out]; simp [lookR, hy, hx]
      have FY : Hid (Calls Try.prog 117 #[.pointer (some ⟨nb, 13, none⟩), .int .i64 j] w fun e w' => e = .returned (.bool true) ∧ w' = w.setCell ⟨nb, 13 + j, none⟩ (.bool true)) := firstYes nb 13 j w hj (by rw [HN.out.looked j hj, hx]) (HN.out.free _)
      clear hx hy
      obtain ⟨ar, cr, hrv, _, _, _, _⟩ := HN.out.reads.open
      obtain ⟨W, hW⟩ : ∃ W, W = w.setCell ⟨nb, 13 + j, none⟩ (.bool true) := ⟨_, rfl⟩
      have hsW : W.heap.size = w.heap.size := by rw [hW]; simp [World.setCell]
      have TW : Turned [nb] w W := by rw [hW]; exact (Turned.refl _ _).set (by simp) _
      have q17 : W.cell? ⟨nb, 17, none⟩ = some (.slice ar s.reads.length cr) := by rw [hW, setCell_cell_other _ _ _ _ _ (by omega), ← hrv]; exact HN.out.rdc
      have cv' : W.cell? ⟨nb, j * 2, none⟩ = some (.int .i64 ver) := by rw [hW, setCell_cell_other _ _ _ _ _ (by omega)]; exact cv
      have cl' : W.cell? ⟨nb, j * 2 + 1, none⟩ = some (.int .i64 (inBox bs s.puts j)) := by rw [hW, setCell_cell_other _ _ _ _ _ (by omega)]; exact cl
      have HFW : Hid (∀ o, W.frozen? ⟨nb, o, none⟩ = false) := by show ∀ o, _; rw [hW]; exact fun o => by simpa using HN.out.free o
      have HSW : Hid (W.heap.size = w.heap.size) := hsW
      have hnbW : nb < W.heap.size := by rw [hsW]; exact HN.out.boxes.1
      have HRV : Hid (rv = .slice ar s.reads.length cr) := hrv
      have OB : Hid (rv.ownBlock = (Value.slice ar s.reads.length cr).ownBlock) := by show _ = _; rw [hrv]
      have HRW : Hid (W.ownsRow B 38 2 (.slice ar s.reads.length cr) s.reads.length (flat s.reads)) := by
        show W.ownsRow _ _ _ _ _ _
        rw [← hrv]
        exact HN.out.reads.turned TW (fun g e => by have := (HN.out.own.1 g e).1; have := HN.out.lt; simp; omega)
      have nN : Hid ((Value.slice ar s.reads.length cr).ownBlock ≠ some nb) := by
        show _ ≠ _
        rw [← OB.out]
        exact fun e => by have := HN.out.own.1 _ e; have := HN.out.lt; omega
      have HWE : Hid (W = w.setCell ⟨nb, 13 + j, none⟩ (.bool true)) := hW
      have AFT : Hid (∀ w1 : World, W.grownBy w1 (Value.slice ar s.reads.length cr).ownBlock → w1.heap[nb]? = W.heap[nb]?) := fun w1 hg => hg.block _ hnbW (Ne.symm nN.out)
      have FIN : Hid (∀ (w1 : World) (gg cap : Nat), W.grownBy w1 (Value.slice ar s.reads.length cr).ownBlock → w1.ownsRow B 38 2 (.slice (some ⟨gg, 0, none⟩) (s.reads.length + 1) cap) (s.reads.length + 1) (flat s.reads ++ [.int .i64 j, .int .i64 ver]) → ((Value.slice ar s.reads.length cr).ownBlock = some gg ∨ gg = W.heap.size + 1) → (Kq B [nb, bm] w (w1.setCell ⟨nb, 17, none⟩ (.slice (some ⟨gg, 0, none⟩) (s.reads.length + 1) cap)) ∧ Turned (nb :: rv.ownBlock.toList) w (w1.setCell ⟨nb, 17, none⟩ (.slice (some ⟨gg, 0, none⟩) (s.reads.length + 1) cap))) ∧ NowE B nb bm (w1.setCell ⟨nb, 17, none⟩ (.slice (some ⟨gg, 0, none⟩) (s.reads.length + 1) cap)) bs k N { s with reads := lookR bs s.reads s.puts j }) := by
        intro w1 gg cap hg ho hat
        rw [EL.out]
        have hg' : (w.setCell ⟨nb, 13 + j, none⟩ (.bool true)).grownBy w1 rv.ownBlock := by rw [← HWE.out, OB.out]; exact hg
        have o : OwnP 38 w1 B (.slice (some ⟨gg, 0, none⟩) (s.reads.length + 1) cap) (s.reads ++ [((j : Int), ver)]) := by
          unfold OwnP
          rw [List.length_append, flat_snocP]
          exact ho
        obtain ⟨r1, r2, r3⟩ := HN.out.look hj hg' o (fun g e => by
          have e' : gg = g := Option.some.inj e
          subst e'
          rcases hat with h | h
          · exact .inl (by rw [OB.out]; exact h)
          · exact .inr (by have := HSW.out; omega)) hB
        exact ⟨⟨r2, r3⟩, _, _, r1⟩
      obtain ⟨i0, hi0, hz0, hz1, hz2⟩ := info_parts infoRead
      have hN : Hid (s.reads.length + 1 ≤ maxLen) := by show _ ≤ _; unfold maxLen; omega
      have hBy : Hid ((s.reads.length + 1) * 16 ≤ 140737488355328) := by show _ ≤ _; omega
      have hBW : B ≤ W.heap.size := by omega
      have qa : (W.alloc (.cells #[.int .i64 j, .int .i64 ver] 38)).cell? ⟨nb, 17, none⟩ = some (.slice ar s.reads.length cr) := (World.cell?_of_block (w := W) (a := ⟨nb, 17, none⟩) (heap_old _ _ _ (by show nb < _; omega))).trans q17
      have va : (W.alloc (.cells #[.int .i64 j, .int .i64 ver] 38)).cell? ⟨nb, j * 2, none⟩ = some (.int .i64 ver) := (World.cell?_of_block (w := W) (a := ⟨nb, j * 2, none⟩) (heap_old _ _ _ (by show nb < _; omega))).trans cv'
      have HQ17 : Hid (W.cell? ⟨nb, 17, none⟩ = some (.slice ar s.reads.length cr)) := q17
      have HCL : Hid (W.cell? ⟨nb, j * 2 + 1, none⟩ = some (.int .i64 (inBox bs s.puts j))) := cl'
      generalize inBox bs s.puts j = iv at HCL
      clear hW hsW TW hrv cv cl cl'
      go_enter Try.func140, Try.ntmps140
      go_wp2_with fail
      refine Calls.mono FY.out ?_
      rintro e w0 ⟨rfl, hw⟩
      rw [hw, ← HWE.out]
      clear hw mpc hlk
      go_upto_region 5 with fail
      go_region_law ((refine step_append_lies _ (by rfl) _ _ _ (by rfl) B 38 i0 _ 2 16 Try.underlying27 hi0 hz0 hz1 hz2 rfl (by omega) (.slice ar s.reads.length cr) s.reads.length (flat s.reads) (by rfl) ((HRW.out.alloc _).drew) ⟨W.heap.size, 0, none⟩ 1 1 [.int .i64 j, .int .i64 ver] (by rfl) (by rfl) (World.news_of_block (cs := #[.int .i64 j, .int .i64 ver]) (t := 38) (fr := (0, 0)) (heap_alloc_new W _)) (by simp [Value.oneCell']) (by omega) hN.out hBy.out (by simp; omega) (W.heap.size + 1) (by simp) ?_; intro gg cap w1 hown1 hgrow hat hlt; have GW : W.grownBy w1 (Value.slice ar s.reads.length cr).ownBlock := World.grownBy.trans (grDrew (grAlloc (grR W _) _)) hgrow; have f0 : w1.frozen? ⟨nb, 17, none⟩ = false := (World.frozen?_of_block (w := W) (a := ⟨nb, 17, none⟩) (AFT.out w1 GW)).trans (HFW.out 17); have c0 : w1.cell? ⟨nb, 17, none⟩ = some (.slice ar s.reads.length cr) := (World.cell?_of_block (w := W) (a := ⟨nb, 17, none⟩) (AFT.out w1 GW)).trans HQ17.out))
      all_goals
        have cl1 : w1.cell? ⟨nb, j * 2 + 1, none⟩ = some (.int .i64 iv) := (World.cell?_of_block (w := W) (a := ⟨nb, j * 2 + 1, none⟩) (AFT.out w1 GW)).trans HCL.out
        have F3 : Hid _ := FIN.out w1 gg cap GW hown1 hat
        clear hown1 hgrow hat hlt GW
        go_wp2
        go_ret
        exact ⟨rfl, F3.out⟩
end Go.Proofs.Ytiibonnchmphcaa.Own
