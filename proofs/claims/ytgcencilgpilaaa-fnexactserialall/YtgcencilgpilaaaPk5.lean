/-
  Own texts, bundled: SpecRun, Blk, L3Run, L3RunW, DrawES, DrawEF.
-/
import Derived.Test.YtgcencilgpilaaaPk4
import Derived.Test.YtgcencilgpilaaaPk1
import Derived.Test.YtgcencilgpilaaaPk2
import Derived.Deep.RegionLaw
import Derived.Deep.AppendLies
import Derived.Deep.Cut
import Derived.Deep.RegionWith
namespace Go.Proofs.Ytgcencilgpilaaa.Own
open Go.RowKit
set_option linter.unusedVariables false
set_option linter.unusedSimpArgs false

/-- What a run hands back: four cells, its lists rows of its own from B on. -/
def RunPost (o : RunOut) (B : Nat) (e : Ending) (w' : World) : Prop :=
  ∃ rv pv, e = .returned (.agg #[rv, pv, .int .i64 o.val, .int .i64 o.code]) ∧ OwnP 40 w' B rv o.reads ∧ OwnP 36 w' B pv o.puts ∧ (rv.ownBlock = none ∨ rv.ownBlock ≠ pv.ownBlock)

theorem l3Step (la : Option Addr) (lc : Nat) (bs : List P2) (rg rc : Nat) (s : RunSt) (rv pv : Value) (p : Q4) (v : Int) (B : Nat) (w : World)
    (hb : Sl w la bs) (l4 : bs.length = 4) (hla : ∀ x, la = some x → x.block < B) (hh : Held B rg w rv pv s) (hrg : rg < B) (hB : B ≤ w.heap.size) (lx : s.reads.length ≤ 1000) (ly : s.puts.length ≤ 1000)
    (hp : insOk p = true) (h6 : ¬ p.1 = 6) (hc : s.code = 0) (hn : ∀ i, i < 4 → numOk (s.regs.getD i 0) = true) :
    Calls Try.prog 142 #[.slice la bs.length lc, .agg #[rv, pv, .int .i64 v, .int .i64 s.code], .slice (some ⟨rg, 0, none⟩) 4 rc, .agg #[.int .i64 p.1, .int .i64 p.2.1, .int .i64 p.2.2.1, .int .i64 p.2.2.2]] w fun e w' => StepPost bs s p B rg v w e w' := by
  by_cases h1 : p.1 = 1
  · exact l3StepL la lc bs rg rc s rv pv p v B w hb l4 hla hh hrg hB lx ly hp h1 hc hn
  by_cases h2 : p.1 = 2
  · exact l3StepP la lc bs rg rc s rv pv p v B w hb l4 hla hh hrg hB lx ly hp h2 hc hn
  refine l3StepA la lc bs rg rc s rv pv p v B w hb l4 hla hh hrg hB lx ly hp ?_ hc hn
  obtain ⟨kd, a, b, n⟩ := p
  by_cases h3 : kd = 3
  · exact .inl h3
  by_cases h7 : kd = 7
  · exact .inr (.inl h7)
  by_cases h4 : kd = 4
  · exact .inr (.inr (.inl h4))
  by_cases h5 : kd = 5
  · exact .inr (.inr (.inr h5))
  rw [insOk_no a b n ⟨h1, h2, h3, h4, h5, h6, h7⟩] at hp
  cases hp

/-- Of the blocks below B none but those listed have turned. -/
structure Kq (B : Nat) (L : List Nat) (w w' : World) : Prop where
  os : w'.os = w.os
  tape : w'.tape = w.tape
  output : w'.output = w.output
  size : w.heap.size ≤ w'.heap.size
  block : ∀ k, k < B → k ∉ L → w'.heap[k]? = w.heap[k]?
theorem Kq.refl (B : Nat) (L : List Nat) (w : World) : Kq B L w w := ⟨rfl, rfl, rfl, Nat.le_refl _, fun _ _ _ => rfl⟩
theorem Kq.trans {B : Nat} {L : List Nat} {a b c : World} (h : Kq B L a b) (k : Kq B L b c) : Kq B L a c :=
  ⟨k.os.trans h.os, k.tape.trans h.tape, k.output.trans h.output, Nat.le_trans h.size k.size, fun i hi hn => (k.block i hi hn).trans (h.block i hi hn)⟩
theorem Kp.kq {B rg : Nat} {L : List Nat} {w w' : World} (h : Kp B rg w w') (hr : rg ∈ L) : Kq B L w w' := ⟨h.os, h.tape, h.output, h.size, fun k hk hn => h.block k hk (fun e => hn (e ▸ hr))⟩
theorem Turned.kq {B : Nat} {L L' : List Nat} {w w' : World} (h : Turned L' w w') (hB : B ≤ w.heap.size) (hL : ∀ x, x ∈ L' → x ∈ L ∨ B ≤ x) : Kq B L w w' :=
  ⟨h.os, h.tape, h.output, h.size, fun k hk hn => h.block k (by omega) (fun e => by rcases hL k e with h | h; exact hn h; omega)⟩
theorem Kq.below {B B' : Nat} {L : List Nat} {w w' : World} (h : Kq B L w w') (hL : ∀ x, x ∈ L → B' ≤ x) (hB : B' ≤ B) : Below B' w w' :=
  ⟨h.os, h.tape, h.output, h.size, fun k hk => h.block k (by omega) (fun e => by have := hL k e; omega)⟩
theorem Kq.cell {B b : Nat} {L : List Nat} {w w' : World} (h : Kq B L w w') (hb : b < B) (hn : b ∉ L) (o : Nat) : w'.cell? ⟨b, o, none⟩ = w.cell? ⟨b, o, none⟩ :=
  World.cell?_of_block (w := w) (a := ⟨b, o, none⟩) (h.block b hb hn)
theorem Kq.frozen {B b : Nat} {L : List Nat} {w w' : World} (h : Kq B L w w') (hb : b < B) (hn : b ∉ L) (o : Nat) : w'.frozen? ⟨b, o, none⟩ = w.frozen? ⟨b, o, none⟩ :=
  World.frozen?_of_block (w := w) (a := ⟨b, o, none⟩) (h.block b hb hn)
theorem C4.kq {B b : Nat} {L : List Nat} {w w' : World} {x0 x1 x2 x3 : Value} (h : C4 w b x0 x1 x2 x3) (k : Kq B L w w') (hb : b < B) (hn : b ∉ L) : C4 w' b x0 x1 x2 x3 := by
  refine ⟨Nat.lt_of_lt_of_le h.1 k.size, ?_⟩
  rw [k.cell hb hn, k.cell hb hn, k.cell hb hn, k.cell hb hn]; exact h.2
theorem C4.put4 {w : World} {b : Nat} {x0 x1 x2 x3 : Value} (h : C4 w b x0 x1 x2 x3) (y0 y1 y2 y3 : Value) :
    C4 ((((w.setCell ⟨b, 0, none⟩ y0).setCell ⟨b, 1, none⟩ y1).setCell ⟨b, 2, none⟩ y2).setCell ⟨b, 3, none⟩ y3) b y0 y1 y2 y3 := by
  obtain ⟨h0, c0, c1, c2, c3⟩ := h
  refine ⟨by simpa [World.setCell] using h0, ?_, ?_, ?_, ?_⟩
  · rw [setCell_cell_other _ _ _ _ _ (by omega), setCell_cell_other _ _ _ _ _ (by omega), setCell_cell_other _ _ _ _ _ (by omega)]
    exact setCell_cell_same _ _ _ _ _ c0
  · rw [setCell_cell_other _ _ _ _ _ (by omega), setCell_cell_other _ _ _ _ _ (by omega)]
    exact setCell_cell_same _ _ _ _ _ (by rw [setCell_cell_other _ _ _ _ _ (by omega)]; exact c1)
  · rw [setCell_cell_other _ _ _ _ _ (by omega)]
    exact setCell_cell_same _ _ _ _ _ (by rw [setCell_cell_other _ _ _ _ _ (by omega), setCell_cell_other _ _ _ _ _ (by omega)]; exact c2)
  · exact setCell_cell_same _ _ _ _ _ (by rw [setCell_cell_other _ _ _ _ _ (by omega), setCell_cell_other _ _ _ _ _ (by omega), setCell_cell_other _ _ _ _ _ (by omega)]; exact c3)

theorem Sl.kq {B : Nat} {L : List Nat} {w w' : World} {a : Option Addr} {xs : List P2} (h : Sl w a xs) (k : Kq B L w w') (hb : ∀ x, a = some x → x.block < B ∧ x.block ∉ L) : Sl w' a xs := by
  rcases h with h | ⟨b, off, rfl, h⟩
  · exact .inl h
  · obtain ⟨h1, h2⟩ := hb _ rfl
    exact .inr ⟨b, off, rfl, Nat.lt_of_lt_of_le h.1 k.size, fun i hi => by rw [k.cell h1 h2, k.cell h1 h2]; exact h.2 i hi⟩
theorem At4.kq {B b off : Nat} {L : List Nat} {w w' : World} {xs : List Q4} (h : At4 w b off xs) (k : Kq B L w w') (hb : b < B) (hn : b ∉ L) : At4 w' b off xs :=
  h.congr (Nat.lt_of_lt_of_le h.1 k.size) (fun o => k.cell hb hn o)

theorem mkRegs (w : World) : (Instr.makeSlice 48 (.int .i64 4) (.int .i64 4)).run Try.prog w = .ok (.slice (some ⟨w.heap.size, 0, none⟩) 4 4) (w.alloc (.cells #[.int .i64 0, .int .i64 0, .int .i64 0, .int .i64 0] 3)) := by kernel_rfl

set_option maxRecDepth 100000 in
set_option maxHeartbeats 4000000 in
theorem specRun (la pa : Option Addr) (lc pc : Nat) (bs : List P2) (xs : List Q4) (w : World) (hb : Sl w la bs) (hx : Sl4 w pa xs) (l1 : bs.length ≤ 2 ^ 40) (l2 : xs.length ≤ 2 ^ 40) :
    Calls Try.prog 115 #[.slice la bs.length lc, .slice pa xs.length pc] w fun e w' => RunPost (execRun bs xs) w.heap.size e w' ∧ Below w.heap.size w w' := by
  have SB : Hid (Sl w la bs) := hb
  have SX : Hid (Sl4 w pa xs) := hx
  clear hb hx
  obtain ⟨W, hW⟩ : ∃ W, W = w.alloc (.cells #[.slice none 0 0, .slice none 0 0, .int .i64 0, .int .i64 0] 27) := ⟨_, rfl⟩
  have BW : Hid (Below w.heap.size w W) := by show Below _ _ _; rw [hW]; exact below_new _ _
  have HSW : Hid (W.heap.size = w.heap.size + 1) := by show _ = _; rw [hW]; simp
  have Z0 : Hid (C4 W w.heap.size (.slice none 0 0) (.slice none 0 0) (.int .i64 0) (.int .i64 0)) := by show C4 _ _ _ _ _ _; rw [hW]; exact C4.new _ _ _ _ _ _
  have FZ : Hid (∀ o, W.frozen? ⟨w.heap.size, o, none⟩ = false) := by show ∀ o, _; rw [hW]; exact fun o => frozen_heap (heap_new _ _) o
  have HW : Hid (W = _) := hW
  clear hW
  cases hB : boxOk bs with
  | false =>
    have EF : Hid (execRun bs xs = ⟨[], [], 0, 3⟩) := execRun_form (by simp [hB])
    obtain ⟨_, z0, z1, z2, z3⟩ := Z0.out
    have fz := FZ.out
    go_enter Try.func115, Try.ntmps115
    go_upto_region 1 with fail
    rw [← HW.out]
    go_wp2_with fail
    refine (specOk la lc bs W (SB.out.below BW.out) l1).mono ?_
    rintro e w1 ⟨rfl, hw⟩
    rw [hw, hB]
    clear hw
    go_wp2
    refine bodyPost_ret (v := .agg #[.slice none 0 0, .slice none 0 0, .int .i64 0, .int .i64 3]) (by simp [results, Try.results115, go_sem, z0, z1, z2, z3]) rfl ?_
    rw [EF.out]
    refine ⟨⟨_, _, rfl, OwnP.nil _ _ _, OwnP.nil _ _ _, .inl rfl⟩, ?_⟩
    exact (((BW.out.setCell (Nat.le_refl _) _).setCell (Nat.le_refl _) _).setCell (Nat.le_refl _) _).setCell (Nat.le_refl _) _
  | true =>
  cases hP : progOk xs with
  | false =>
    have EF : Hid (execRun bs xs = ⟨[], [], 0, 3⟩) := execRun_form (by simp [hP])
    go_enter Try.func115, Try.ntmps115
    go_upto_region 1 with fail
    rw [← HW.out]
    go_wp2_with fail
    refine (specOk la lc bs W (SB.out.below BW.out) l1).mono ?_
    rintro e w1 ⟨rfl, hw⟩
    rw [hw, hB]
    clear hw
    go_wp2_with fail
    refine (specProgOk pa pc xs W (SX.out.below BW.out) l2).mono ?_
    rintro e w2 ⟨rfl, b2⟩
    rw [hP]
    have B2 : Hid (Below w.heap.size w w2) := BW.out.trans (b2.mono BW.out.size)
    obtain ⟨_, z0, z1, z2, z3⟩ := Z0.out.below b2
    have fz : ∀ o, w2.frozen? ⟨w.heap.size, o, none⟩ = false := fun o => by rw [b2.frozen (p := ⟨w.heap.size, o, none⟩) Z0.out.1]; exact FZ.out o
    clear b2
    go_wp2
    refine bodyPost_ret (v := .agg #[.slice none 0 0, .slice none 0 0, .int .i64 0, .int .i64 3]) (by simp [results, Try.results115, go_sem, z0, z1, z2, z3]) rfl ?_
    rw [EF.out]
    refine ⟨⟨_, _, rfl, OwnP.nil _ _ _, OwnP.nil _ _ _, .inl rfl⟩, ?_⟩
    exact (((B2.out.setCell (Nat.le_refl _) _).setCell (Nat.le_refl _) _).setCell (Nat.le_refl _) _).setCell (Nat.le_refl _) _
  | true =>
    have ER : Hid (execRun bs xs = outR (runR bs xs 0 initR)) := execRun_is hB hP
    have HBO : Hid (boxOk bs = true) := hB
    have HPO : Hid (progOk xs = true) := hP
    have HL4 : Hid (bs.length = 4) := boxOk_len hB
    have HLA : Hid (∀ x, la = some x → x.block < w.heap.size) := by
      intro x e
      rcases SB.out with h | ⟨b, off, e', h⟩
      · have := HL4.out; rw [h] at this; simp at this
      · rw [e] at e'; injection e' with e'; rw [e']; exact h.1
    have HX10 : Hid (xs.length ≤ 10) := by simp only [progOk, Bool.and_eq_true, decide_eq_true_eq] at hP; exact hP.1
    go_enter Try.func115, Try.ntmps115
    go_upto_region 1 with fail
    rw [← HW.out]
    go_wp2_with fail
    refine (specOk la lc bs W (SB.out.below BW.out) l1).mono ?_
    rintro e w1 ⟨rfl, hw⟩
    rw [hw, hB]
    clear hw
    go_wp2_with fail
    refine (specProgOk pa pc xs W (SX.out.below BW.out) l2).mono ?_
    rintro e w2 ⟨rfl, b2⟩
    rw [hP]
    have B2 : Hid (Below w.heap.size w w2) := BW.out.trans (b2.mono BW.out.size)
    have Z2 : Hid (C4 w2 w.heap.size (.slice none 0 0) (.slice none 0 0) (.int .i64 0) (.int .i64 0)) := Z0.out.below b2
    have F2 : Hid (∀ o, w2.frozen? ⟨w.heap.size, o, none⟩ = false) := fun o => by rw [b2.frozen (p := ⟨w.heap.size, o, none⟩) Z0.out.1]; exact FZ.out o
    clear b2 hB hP
    obtain ⟨X, hX⟩ : ∃ X, X = (w2.alloc (.cells #[.slice none 0 0, .slice none 0 0, .int .i64 0, .int .i64 0] 27)).alloc (.cells #[.int .i64 0, .int .i64 0, .int .i64 0, .int .i64 0] 3) := ⟨_, rfl⟩
    have hmk := mkRegs
    go_upto_region 5 with fail
    rw [← hX]
    have gr0 : X.heap[w2.heap.size]? = some (.cells #[.slice none 0 0, .slice none 0 0, .int .i64 0, .int .i64 0] 27 (0, 0)) := by rw [hX]; exact heap_new1 _ _ _
    have gr1 : X.heap[w2.heap.size + 1]? = some (.cells #[.int .i64 0, .int .i64 0, .int .i64 0, .int .i64 0] 3 (0, 0)) := by rw [hX]; exact heap_new2 _ _ _
    have hsX : X.heap.size = w2.heap.size + 2 := by rw [hX]; simp
    have BX2 : Below w2.heap.size w2 X := by rw [hX]; exact ((Below.refl _ _).alloc (Nat.le_refl _) _).alloc (by simp) _
    have BX : Hid (Below w.heap.size w X) := B2.out.trans (BX2.mono B2.out.size)
    have ZX : Hid (C4 X w.heap.size (.slice none 0 0) (.slice none 0 0) (.int .i64 0) (.int .i64 0)) := Z2.out.below BX2
    have FX : Hid (∀ o, X.frozen? ⟨w.heap.size, o, none⟩ = false) := fun o => by rw [BX2.frozen (p := ⟨w.heap.size, o, none⟩) Z2.out.1]; exact F2.out o
    have CX : Hid (C4 X w2.heap.size (.slice none 0 0) (.slice none 0 0) (.int .i64 0) (.int .i64 0)) := ⟨by omega, (cell_heap gr0 0).trans rfl, (cell_heap gr0 1).trans rfl, (cell_heap gr0 2).trans rfl, (cell_heap gr0 3).trans rfl⟩
    have HX0 : Hid (Held (w2.heap.size + 2) (w2.heap.size + 1) X (.slice none 0 0) (.slice none 0 0) initR) := by
      refine ⟨⟨by omega, fun i hi => ?_⟩, rfl, fun o => frozen_heap gr1 o, OwnP.nil _ _ _, OwnP.nil _ _ _, .inl rfl⟩
      have hi' : i < 4 := hi
      have : i = 0 ∨ i = 1 ∨ i = 2 ∨ i = 3 := by omega
      rcases this with rfl | rfl | rfl | rfl <;> exact (cell_heap gr1 _).trans rfl
    have FR0 : Hid (∀ o, X.frozen? ⟨w2.heap.size, o, none⟩ = false) := fun o => frozen_heap gr0 o
    have hNN : w.heap.size < w2.heap.size := Z2.out.1
    have HSX : Hid (X.heap.size = w2.heap.size + 2) := hsX
    have l2' : xs.length ≤ 10 := HX10.out
    clear hX gr0 gr1 BX2 hmk hsX
    go_wp2_with fail
    go_loopw [7, 8] (fun i p wr => ∃ (k : Nat) (s : RunSt) (rv pv : Value), i = .int .i64 k ∧ Hid (Held (w2.heap.size + 2) (w2.heap.size + 1) wr rv pv s) ∧ Hid (C4 wr w2.heap.size rv pv (.int .i64 0) (.int .i64 s.code)) ∧ Hid (∀ o, wr.frozen? ⟨w2.heap.size, o, none⟩ = false) ∧ Hid (runR bs xs k s = runR bs xs 0 initR) ∧ Hid (Inv bs xs s) ∧ Hid (Kq (w2.heap.size + 2) [w2.heap.size, w2.heap.size + 1] X wr) ∧ Hid (k ≤ 20)) (fun i _ _ => xs.length - (intOf i).toNat)
    case atStart => exact ⟨0, initR, _, _, rfl, HX0, CX, FR0, rfl, Inv.init _ _, Kq.refl _ _ _, Nat.zero_le _⟩
    case round =>
      obtain ⟨k, s, rv, pv, rfl, HH, CR, FR, ERk, IV, KX, K20⟩ := hrel
      have hk20 : k ≤ 20 := K20.out
      obtain ⟨_, e0, e1, e2, e3⟩ := CR.out
      have fr := FR.out
      have hsw : w2.heap.size + 2 ≤ wr.heap.size := by have := KX.out.size; have := HSX.out; omega
      -- how it ends
      have FIN : Hid (∀ (W' : World) (rv' pv' : Value) (o : RunOut), execRun bs xs = o → OwnP 40 wr w.heap.size rv' o.reads → OwnP 36 wr w.heap.size pv' o.puts → (rv'.ownBlock = none ∨ rv'.ownBlock ≠ pv'.ownBlock) → (∀ g, rv'.ownBlock = some g → g ≠ w.heap.size ∧ g ≠ w2.heap.size) → (∀ g, pv'.ownBlock = some g → g ≠ w.heap.size ∧ g ≠ w2.heap.size) → Turned [w.heap.size, w2.heap.size] wr W' → RunPost (execRun bs xs) w.heap.size (.returned (.agg #[rv', pv', .int .i64 o.val, .int .i64 o.code])) W' ∧ Below w.heap.size w W') := by
        intro W' rv' pv' o eo h1 h2 h3 h4 h5 h6
        rw [eo]
        refine ⟨⟨rv', pv', rfl, h1.turned h6 (fun g e => by have := h4 g e; simp; omega), h2.turned h6 (fun g e => by have := h5 g e; simp; omega), h3⟩, ?_⟩
        refine BX.out.trans ((KX.out.below (B' := w.heap.size) (fun x hx => by simp at hx; omega) (by omega)).trans (h6.below (fun x hx => by simp at hx; omega) (by omega)))
      have lRd : Hid (∀ g, rv.ownBlock = some g → g ≠ w.heap.size ∧ g ≠ w2.heap.size) := fun g e => by have := (World.ownsRow.lt HH.out.reads g e).1; omega
      have lPt : Hid (∀ g, pv.ownBlock = some g → g ≠ w.heap.size ∧ g ≠ w2.heap.size) := fun g e => by have := (World.ownsRow.lt HH.out.puts g e).1; omega
      have ZR : Hid (C4 wr w.heap.size (.slice none 0 0) (.slice none 0 0) (.int .i64 0) (.int .i64 0)) := ZX.out.kq KX.out (by omega) (by simp; omega)
      have FZR : Hid (∀ o, wr.frozen? ⟨w.heap.size, o, none⟩ = false) := fun o => by rw [KX.out.frozen (by omega) (by simp; omega)]; exact FX.out o
      obtain ⟨arr, crr, hrv, _, _, _, _⟩ := HH.out.reads.open
      obtain ⟨app, cpp, hpv, _, _, _, _⟩ := HH.out.puts.open
      have HRV : Hid (rv = .slice arr s.reads.length crr) := hrv
      have HPV : Hid (pv = .slice app s.puts.length cpp) := hpv
      rw [hrv] at e0
      rw [hpv] at e1
      clear hrv hpv
      by_cases hc : s.code = 0
      · have HC : Hid (s.code = 0) := hc
        rw [hc] at e3
        clear hc
        by_cases hlt : k < xs.length
        · rcases SX.out with h | ⟨pb, po, rfl, h1⟩
          · subst h; simp at hlt
          have hpb : pb < w.heap.size := h1.1
          have AX : Hid (At4 wr pb po xs) := (h1.below BX.out).kq KX.out (by omega) (by simp; omega)
          obtain ⟨ca, cb, cc, cd⟩ := AX.out.2 k hlt
          clear h1
          obtain ⟨p, hp⟩ : ∃ p, p = xs.getD k q0 := ⟨_, rfl⟩
          have HP : Hid (p = xs.getD k q0) := hp
          rw [← hp] at ca cb cc cd
          have HOK : Hid (insOk p = true) := by show _ = _; rw [hp]; exact progOk_ins HPO.out _ (getD_mem hlt)
          have HM : Hid (p ∈ xs) := by show _ ∈ _; rw [hp]; exact getD_mem hlt
          clear hp
          obtain ⟨kd, pa, pb', pn⟩ := p
          dsimp only at ca cb cc cd
          have hki : (k : Int) < (xs.length : Int) := by omega
          obtain ⟨V, hV⟩ : ∃ V, V = wr.alloc (.cells #[.int .i64 kd, .int .i64 pa, .int .i64 pb', .int .i64 pn] 156) := ⟨_, rfl⟩
          have gV : V.heap[wr.heap.size]? = some (.cells #[.int .i64 kd, .int .i64 pa, .int .i64 pb', .int .i64 pn] 156 (0, 0)) := by rw [hV]; exact heap_new _ _
          have v0 : V.cell? ⟨wr.heap.size, 0, none⟩ = some (.int .i64 kd) := (cell_heap gV 0).trans rfl
          have v1 : V.cell? ⟨wr.heap.size, 1, none⟩ = some (.int .i64 pa) := (cell_heap gV 1).trans rfl
          have v2 : V.cell? ⟨wr.heap.size, 2, none⟩ = some (.int .i64 pb') := (cell_heap gV 2).trans rfl
          have v3 : V.cell? ⟨wr.heap.size, 3, none⟩ = some (.int .i64 pn) := (cell_heap gV 3).trans rfl
          have BV : Hid (Below wr.heap.size wr V) := by show Below _ _ _; rw [hV]; exact below_new _ _
          have HSV : Hid (V.heap.size = wr.heap.size + 1) := by show _ = _; rw [hV]; simp
          have HV : Hid (V = _) := hV
          clear hV gV
          have HHV : Hid (Held (w2.heap.size + 2) (w2.heap.size + 1) V rv pv s) := HH.out.turned (Turned.ofBelow (L := []) BV.out) (by simp) (by simp) (by simp)
          have CV : Hid (C4 V w2.heap.size rv pv (.int .i64 0) (.int .i64 s.code)) := CR.out.below BV.out
          have FV : Hid (∀ o, V.frozen? ⟨w2.heap.size, o, none⟩ = false) := fun o => by rw [BV.out.frozen (p := ⟨w2.heap.size, o, none⟩) CR.out.1]; exact FR.out o
          have KV : Hid (Kq (w2.heap.size + 2) [w2.heap.size, w2.heap.size + 1] X V) := KX.out.trans ((Turned.ofBelow (L := []) BV.out).kq (by omega) (by simp))
          go_upto_region 9 with fail
          rw [← HV.out]
          clear ca cb cc cd e0 e1 e2 e3 fr
          obtain ⟨_, e0, e1, e2, e3⟩ := CV.out
          have fr := FV.out
          rw [HRV.out] at e0
          rw [HPV.out] at e1
          rw [HC.out] at e3
          by_cases h6 : kd = 6
          · subst h6
            have ok := HOK.out
            rw [insOk_6] at ok
            simp only [Bool.and_eq_true] at ok
            obtain ⟨na, hna, rfl⟩ := regOk_nat ok.1.1
            obtain ⟨nb, hnb, rfl⟩ := regOk_nat ok.1.2
            have hn := ok.2
            simp only [lessOk, Bool.and_eq_true, decide_eq_true_eq] at hn
            obtain ⟨n, hn1, hn2⟩ : ∃ n : Nat, pn = (n : Int) ∧ n ≤ 10 := ⟨pn.toNat, by omega, by omega⟩
            subst hn1
            clear ok
            have hai : (na : Int) < 4 := by omega
            have hbi : (nb : Int) < 4 := by omega
            have rga := HHV.out.regs.2 na (by rw [HHV.out.four]; exact hna)
            have rgb := HHV.out.regs.2 nb (by rw [HHV.out.four]; exact hnb)
            rw [Nat.zero_add] at rga rgb
            have EJ : Hid (s.regs.getD na 0 < s.regs.getD nb 0 → runR bs xs k s = runR bs xs (k + n + 1) s) := fun hl => by
              have e := run_jump (bs := bs) (xs := xs) (k := k) (s := s) hlt HC.out (by rw [← HP.out]) (by rw [← HP.out]; simpa using hl)
              rw [← HP.out] at e
              simpa using e
            have EG : Hid (¬ s.regs.getD na 0 < s.regs.getD nb 0 → runR bs xs k s = runR bs xs (k + 1) s) := fun hl =>
              run_go (bs := bs) (xs := xs) (k := k) (s := s) hlt HC.out (by rw [← HP.out]) (by rw [← HP.out]; simpa using hl)
            generalize s.regs.getD na 0 = x at rga EJ EG
            generalize s.regs.getD nb 0 = y at rgb EJ EG
            go_upto_region 10 with fail
            go_quiet (fail)
            by_cases hl : x < y
            · have E' : Hid (runR bs xs (k + n + 1) s = runR bs xs 0 initR) := (EJ.out hl).symm.trans ERk.out
              go_wp2
              go_roundw
              case rel => exact ⟨k + n + 1, s, rv, pv, by go_num, HHV.out.turned (L := []) ((Turned.refl _ _).drewN _) (by simp) (by simp) (by simp), CV, FV, E', IV, KV.out.trans (Turned.kq (L' := []) ((Turned.refl _ _).drewN _) (by have := HSV.out; omega) (by simp)), by show _ ≤ _; omega⟩
              case measure => simp [intOf]; omega
            · have E' : Hid (runR bs xs (k + 1) s = runR bs xs 0 initR) := (EG.out hl).symm.trans ERk.out
              go_wp2
              go_roundw
              case rel => exact ⟨k + 1, s, rv, pv, by go_num, HHV.out.turned (L := []) ((Turned.refl _ _).drewN _) (by simp) (by simp) (by simp), CV, FV, E', IV, KV.out.trans (Turned.kq (L' := []) ((Turned.refl _ _).drewN _) (by have := HSV.out; omega) (by simp)), by show _ ≤ _; omega⟩
              case measure => simp [intOf]; omega
          · have h6' : (kd == 6) = false := by simpa using h6
            have E' : Hid (runR bs xs (k + 1) (stepR bs s (kd, pa, pb', pn)) = runR bs xs 0 initR) := by
              show _ = _
              rw [← ERk.out, run_step (bs := bs) (xs := xs) (k := k) (s := s) hlt HC.out (by rw [← HP.out]; exact h6), ← HP.out]
            have I' : Hid (Inv bs xs (stepR bs s (kd, pa, pb', pn))) := IV.out.step HC.out _ HOK.out HM.out h6
            have SBV : Hid (Sl V la bs) := ((SB.out.below BX.out).kq KX.out (fun x e => by have := HLA.out x e; simp; omega)).below BV.out
            have ST : Hid (Calls Try.prog 142 #[.slice la bs.length lc, .agg #[.slice arr s.reads.length crr, .slice app s.puts.length cpp, .int .i64 0, .int .i64 0], .slice (some ⟨w2.heap.size + 1, 0, none⟩) 4 4, .agg #[.int .i64 kd, .int .i64 pa, .int .i64 pb', .int .i64 pn]] V fun e w' => StepPost bs s (kd, pa, pb', pn) (w2.heap.size + 2) (w2.heap.size + 1) 0 V e w') := by
              have f4 := reads_few IV.out
              have p4 := puts_few IV.out
              have b1 := boxesTo_len loadsQ xs 4
              have b2 := boxesTo_len putsQ xs 4
              have h := l3Step la lc bs (w2.heap.size + 1) 4 s rv pv (kd, pa, pb', pn) 0 (w2.heap.size + 2) V SBV.out HL4.out (fun x e => by have := HLA.out x e; omega) HHV.out (by omega) (by have := HSV.out; omega) (by omega) (by omega) HOK.out h6 HC.out (IV.out.num HC.out)
              rw [HRV.out, HPV.out, HC.out] at h
              exact h
            clear SBV HOK HM
            go_wp2_with fail
            refine Calls.mono ST.out ?_
            rintro e w3 ⟨rv3, pv3, rfl, H3, K3⟩
            obtain ⟨ar3, cr3, hrv3, _, _, _, _⟩ := H3.reads.open
            obtain ⟨ap3, cp3, hpv3, _, _, _, _⟩ := H3.puts.open
            generalize stepR bs s (kd, pa, pb', pn) = s3 at H3 E' I' hrv3 hpv3 ⊢
            have KK := KV.out.trans (K3.kq (L := [w2.heap.size, w2.heap.size + 1]) (by simp))
            have K3' : Kq (w2.heap.size + 2) [w2.heap.size + 1] V w3 := K3.kq (by simp)
            have C3 : C4 w3 w2.heap.size rv pv (.int .i64 0) (.int .i64 s.code) := CV.out.kq K3' (by omega) (by simp)
            have F3 : Hid (∀ o, w3.frozen? ⟨w2.heap.size, o, none⟩ = false) := fun o => by rw [K3'.frozen (by omega) (by simp)]; exact FV.out o
            have TF : Turned [w2.heap.size] w3 ((((w3.setCell ⟨w2.heap.size, 0, none⟩ rv3).setCell ⟨w2.heap.size, 1, none⟩ pv3).setCell ⟨w2.heap.size, 2, none⟩ (.int .i64 0)).setCell ⟨w2.heap.size, 3, none⟩ (.int .i64 s3.code)) := ((((Turned.refl _ _).set (by simp) _).set (by simp) _).set (by simp) _).set (by simp) _
            have hs3 : w2.heap.size + 2 ≤ w3.heap.size := by have := K3.size; have := HSV.out; omega
            have HF : Hid (Held (w2.heap.size + 2) (w2.heap.size + 1) ((((w3.setCell ⟨w2.heap.size, 0, none⟩ rv3).setCell ⟨w2.heap.size, 1, none⟩ pv3).setCell ⟨w2.heap.size, 2, none⟩ (.int .i64 0)).setCell ⟨w2.heap.size, 3, none⟩ (.int .i64 s3.code)) rv3 pv3 s3) := H3.turned TF (by simp) (fun g e => by have := (World.ownsRow.lt H3.reads g e).1; simp; omega) (fun g e => by have := (World.ownsRow.lt H3.puts g e).1; simp; omega)
            have CF : Hid (C4 ((((w3.setCell ⟨w2.heap.size, 0, none⟩ rv3).setCell ⟨w2.heap.size, 1, none⟩ pv3).setCell ⟨w2.heap.size, 2, none⟩ (.int .i64 0)).setCell ⟨w2.heap.size, 3, none⟩ (.int .i64 s3.code)) w2.heap.size rv3 pv3 (.int .i64 0) (.int .i64 s3.code)) := C3.put4 _ _ _ _
            have FF : Hid (∀ o, ((((w3.setCell ⟨w2.heap.size, 0, none⟩ rv3).setCell ⟨w2.heap.size, 1, none⟩ pv3).setCell ⟨w2.heap.size, 2, none⟩ (.int .i64 0)).setCell ⟨w2.heap.size, 3, none⟩ (.int .i64 s3.code)).frozen? ⟨w2.heap.size, o, none⟩ = false) := fun o => by simpa using F3.out o
            have KF : Hid (Kq (w2.heap.size + 2) [w2.heap.size, w2.heap.size + 1] X ((((w3.setCell ⟨w2.heap.size, 0, none⟩ rv3).setCell ⟨w2.heap.size, 1, none⟩ pv3).setCell ⟨w2.heap.size, 2, none⟩ (.int .i64 0)).setCell ⟨w2.heap.size, 3, none⟩ (.int .i64 s3.code))) := KK.trans (TF.kq hs3 (by simp))
            have f3 := F3.out
            obtain ⟨_, g0, g1, g2, g3⟩ := C3
            clear TF KK K3 K3' H3 e0 e1 e2 e3 fr v0 v1 v2 v3
            have HRV3 : Hid (rv3 = .slice ar3 s3.reads.length cr3) := hrv3
            have HPV3 : Hid (pv3 = .slice ap3 s3.puts.length cp3) := hpv3
            rw [hrv3, hpv3] at HF CF FF KF ⊢
            clear hrv3 hpv3
            go_wp2
            go_roundw
            case rel => exact ⟨k + 1, s3, _, _, by go_num, HF, CF, FF, E', I', KF, by show _ ≤ _; omega⟩
            case measure => simp [intOf]; omega
        · have EE : Hid (execRun bs xs = ⟨s.reads, s.puts, s.regs.getD 0 0, 0⟩) := by
            show _ = _
            rw [ER.out, ← ERk.out, run_end hlt]
            unfold outR
            rw [if_pos HC.out]
          have rga := HH.out.regs.2 0 (by rw [HH.out.four]; omega)
          rw [Nat.zero_add] at rga
          have hki : ¬ (k : Int) < (xs.length : Int) := by omega
          obtain ⟨_, z0, z1, z2, z3⟩ := ZR.out
          have fz := FZR.out
          have FN : Hid (∀ W', Turned [w.heap.size, w2.heap.size] wr W' → RunPost (execRun bs xs) w.heap.size (.returned (.agg #[.slice arr s.reads.length crr, .slice app s.puts.length cpp, .int .i64 (s.regs.getD 0 0), .int .i64 0])) W' ∧ Below w.heap.size w W') := fun W' ht => by
            have := FIN.out W' rv pv _ EE.out (HH.out.reads.lower (by omega)) (HH.out.puts.lower (by omega)) HH.out.apart lRd.out lPt.out ht
            rw [← HRV.out, ← HPV.out]
            exact this
          have hnn : ¬ w.heap.size = w2.heap.size := by omega
          have hnn' : ¬ w2.heap.size = w.heap.size := by omega
          clear FIN EE
          generalize s.regs.getD 0 0 = x at rga FN
          go_wp2
          refine bodyPost_ret (v := .agg #[.slice arr s.reads.length crr, .slice app s.puts.length cpp, .int .i64 x, .int .i64 0]) (by simp [results, Try.results115, go_sem, z0, z1, z2, z3, hnn, hnn']) rfl ?_
          refine FN.out _ ?_
          iterate 5 refine Turned.set ?_ (by simp) _
          exact Turned.refl _ _
      · have EE : Hid (execRun bs xs = ⟨s.reads, [], 0, s.code⟩) := by
          show _ = _
          rw [ER.out, ← ERk.out, run_stop hc]
          unfold outR
          rw [if_neg hc]
        obtain ⟨_, z0, z1, z2, z3⟩ := ZR.out
        have fz := FZR.out
        have FN : Hid (∀ W', Turned [w.heap.size, w2.heap.size] wr W' → RunPost (execRun bs xs) w.heap.size (.returned (.agg #[.slice arr s.reads.length crr, .slice none 0 0, .int .i64 0, .int .i64 s.code])) W' ∧ Below w.heap.size w W') := fun W' ht => by
          have := FIN.out W' rv (.slice none 0 0) _ EE.out (HH.out.reads.lower (by omega)) (OwnP.nil _ _ _) (by cases rv.ownBlock with | none => exact .inl rfl | some g => exact .inr (by simp [Value.ownBlock])) lRd.out (fun g e => by cases e) ht
          rw [← HRV.out]
          exact this
        have hnn : ¬ w.heap.size = w2.heap.size := by omega
        have hnn' : ¬ w2.heap.size = w.heap.size := by omega
        have hcb : (s.code == 0) = false := by simpa using hc
        clear FIN EE
        generalize s.code = cd at e3 FN hcb hc
        by_cases hlt : k < xs.length
        · have hki : (k : Int) < (xs.length : Int) := by omega
          go_wp2
          refine bodyPost_ret (v := .agg #[.slice arr s.reads.length crr, .slice none 0 0, .int .i64 0, .int .i64 cd]) (by simp [results, Try.results115, go_sem, z0, z1, z2, z3, hnn, hnn']) rfl ?_
          refine FN.out _ ?_
          iterate 5 refine Turned.set ?_ (by simp) _
          exact Turned.refl _ _
        · have hki : ¬ (k : Int) < (xs.length : Int) := by omega
          go_wp2
          refine bodyPost_ret (v := .agg #[.slice arr s.reads.length crr, .slice none 0 0, .int .i64 0, .int .i64 cd]) (by simp [results, Try.results115, go_sem, z0, z1, z2, z3, hnn, hnn']) rfl ?_
          refine FN.out _ ?_
          iterate 5 refine Turned.set ?_ (by simp) _
          exact Turned.refl _ _
end Go.Proofs.Ytgcencilgpilaaa.Own

namespace Go.Proofs.Ytgcencilgpilaaa.Own
open Go.RowKit
set_option linter.unusedVariables false

/-- Block b holds these cells, none of them frozen. -/
def Blk (w : World) (b : Nat) (C : Array Value) (t : TypeId) : Prop := w.heap[b]? = some (.cells C t (0, 0))
theorem Blk.cell {w : World} {b : Nat} {C : Array Value} {t : TypeId} (h : Blk w b C t) (o : Nat) : w.cell? ⟨b, o, none⟩ = C[o]? := cell_heap h o
theorem Blk.frozen {w : World} {b : Nat} {C : Array Value} {t : TypeId} (h : Blk w b C t) (o : Nat) : w.frozen? ⟨b, o, none⟩ = false := frozen_heap h o
theorem Blk.lt {w : World} {b : Nat} {C : Array Value} {t : TypeId} (h : Blk w b C t) : b < w.heap.size := (Array.getElem?_eq_some_iff.1 h).1
theorem Blk.below {w w' : World} {b B : Nat} {C : Array Value} {t : TypeId} (h : Blk w b C t) (hb : Below B w w') (hB : b < B) : Blk w' b C t := by
  unfold Blk; rw [hb.block _ hB]; exact h
theorem Blk.keep {w w' : World} {b : Nat} {C : Array Value} {t : TypeId} (h : Blk w b C t) (hb : Below w.heap.size w w') : Blk w' b C t := h.below hb h.lt
theorem Blk.new (w : World) (C : Array Value) (t : TypeId) : Blk (w.alloc (.cells C t)) w.heap.size C t := heap_new _ _
theorem Blk.alloc {w : World} {b : Nat} {C : Array Value} {t : TypeId} (h : Blk w b C t) (o : Obj) : Blk (w.alloc o) b C t := by
  unfold Blk; rw [heap_old _ _ _ h.lt]; exact h
theorem Blk.set {w : World} {b : Nat} {C : Array Value} {t : TypeId} (h : Blk w b C t) (o : Nat) (v : Value) : Blk (w.setCell ⟨b, o, none⟩ v) b (C.setIfInBounds o v) t := by
  have h1 : w.heap[b]? = _ := h
  unfold Blk
  simp [World.setCell, Array.getElem?_modify, h1]
theorem Blk.other {w : World} {b b' : Nat} {C : Array Value} {t : TypeId} (h : Blk w b C t) (hn : b ≠ b') (o : Nat) (v : Value) : Blk (w.setCell ⟨b', o, none⟩ v) b C t := by
  unfold Blk; rw [Below.heap_setCell _ _ _ _ hn]; exact h
theorem Blk.eq {w : World} {b : Nat} {C C' : Array Value} {t : TypeId} (h : Blk w b C t) (e : C = C') : Blk w b C' t := e ▸ h
theorem Blk.new2 (w : World) (o : Obj) (C : Array Value) (t : TypeId) : Blk ((w.alloc o).alloc (.cells C t)) (w.heap.size + 1) C t := heap_new2 _ _ _
theorem Blk.new3 (w : World) (o o' : Obj) (C : Array Value) (t : TypeId) : Blk (((w.alloc o).alloc o').alloc (.cells C t)) (w.heap.size + 1 + 1) C t := by
  have := Blk.new ((w.alloc o).alloc o') C t
  rw [size_new, size_new] at this
  exact this
theorem Blk.cells4 {w : World} {b : Nat} {x0 x1 x2 x3 : Value} {t : TypeId} (h : Blk w b #[x0, x1, x2, x3] t) : w.cell? ⟨b, 0, none⟩ = some x0 ∧ w.cell? ⟨b, 1, none⟩ = some x1 ∧ w.cell? ⟨b, 2, none⟩ = some x2 ∧ w.cell? ⟨b, 3, none⟩ = some x3 :=
  ⟨by rw [h.cell]; rfl, by rw [h.cell]; rfl, by rw [h.cell]; rfl, by rw [h.cell]; rfl⟩
theorem Blk.cells3 {w : World} {b : Nat} {x0 x1 x2 : Value} {t : TypeId} (h : Blk w b #[x0, x1, x2] t) : w.cell? ⟨b, 0, none⟩ = some x0 ∧ w.cell? ⟨b, 1, none⟩ = some x1 ∧ w.cell? ⟨b, 2, none⟩ = some x2 :=
  ⟨by rw [h.cell]; rfl, by rw [h.cell]; rfl, by rw [h.cell]; rfl⟩
theorem Blk.cells2 {w : World} {b : Nat} {x0 x1 : Value} {t : TypeId} (h : Blk w b #[x0, x1] t) : w.cell? ⟨b, 0, none⟩ = some x0 ∧ w.cell? ⟨b, 1, none⟩ = some x1 :=
  ⟨by rw [h.cell]; rfl, by rw [h.cell]; rfl⟩
theorem Blk.cells7 {w : World} {b : Nat} {x0 x1 x2 x3 x4 x5 x6 : Value} {t : TypeId} (h : Blk w b #[x0, x1, x2, x3, x4, x5, x6] t) : w.cell? ⟨b, 0, none⟩ = some x0 ∧ w.cell? ⟨b, 1, none⟩ = some x1 ∧ w.cell? ⟨b, 2, none⟩ = some x2 ∧ w.cell? ⟨b, 3, none⟩ = some x3 ∧ w.cell? ⟨b, 4, none⟩ = some x4 ∧ w.cell? ⟨b, 5, none⟩ = some x5 ∧ w.cell? ⟨b, 6, none⟩ = some x6 :=
  ⟨by rw [h.cell]; rfl, by rw [h.cell]; rfl, by rw [h.cell]; rfl, by rw [h.cell]; rfl, by rw [h.cell]; rfl, by rw [h.cell]; rfl, by rw [h.cell]; rfl⟩
/-- Three cells. -/
def C3 (w : World) (b : Nat) (x0 x1 x2 : Value) : Prop := b < w.heap.size ∧ w.cell? ⟨b, 0, none⟩ = some x0 ∧ w.cell? ⟨b, 1, none⟩ = some x1 ∧ w.cell? ⟨b, 2, none⟩ = some x2
theorem C3.below {w w' : World} {b : Nat} {x0 x1 x2 : Value} (h : C3 w b x0 x1 x2) (hb : Below w.heap.size w w') : C3 w' b x0 x1 x2 := by
  have e := fun o => hb.cell (p := ⟨b, o, none⟩) h.1
  exact ⟨Nat.lt_of_lt_of_le h.1 hb.size, by rw [e, e, e]; exact h.2⟩
theorem C3.new (w : World) (x0 x1 x2 : Value) (t : TypeId) : C3 (w.alloc (.cells #[x0, x1, x2] t)) w.heap.size x0 x1 x2 :=
  ⟨by rw [size_new]; omega, (Blk.new _ _ _).cells3⟩
theorem C3.alloc {w : World} {b : Nat} {x0 x1 x2 : Value} (h : C3 w b x0 x1 x2) (o : Obj) : C3 (w.alloc o) b x0 x1 x2 := h.below ((Below.refl _ _).alloc (Nat.le_refl _) _)
/-- Seven cells. -/
def C7 (w : World) (b : Nat) (x0 x1 x2 x3 x4 x5 x6 : Value) : Prop := b < w.heap.size ∧ w.cell? ⟨b, 0, none⟩ = some x0 ∧ w.cell? ⟨b, 1, none⟩ = some x1 ∧ w.cell? ⟨b, 2, none⟩ = some x2 ∧ w.cell? ⟨b, 3, none⟩ = some x3 ∧ w.cell? ⟨b, 4, none⟩ = some x4 ∧ w.cell? ⟨b, 5, none⟩ = some x5 ∧ w.cell? ⟨b, 6, none⟩ = some x6
theorem C7.below {w w' : World} {b : Nat} {x0 x1 x2 x3 x4 x5 x6 : Value} (h : C7 w b x0 x1 x2 x3 x4 x5 x6) (hb : Below w.heap.size w w') : C7 w' b x0 x1 x2 x3 x4 x5 x6 := by
  have e := fun o => hb.cell (p := ⟨b, o, none⟩) h.1
  exact ⟨Nat.lt_of_lt_of_le h.1 hb.size, by rw [e, e, e, e, e, e, e]; exact h.2⟩
theorem C7.new (w : World) (x0 x1 x2 x3 x4 x5 x6 : Value) (t : TypeId) : C7 (w.alloc (.cells #[x0, x1, x2, x3, x4, x5, x6] t)) w.heap.size x0 x1 x2 x3 x4 x5 x6 :=
  ⟨by rw [size_new]; omega, (Blk.new _ _ _).cells7⟩
theorem C7.alloc {w : World} {b : Nat} {x0 x1 x2 x3 x4 x5 x6 : Value} (h : C7 w b x0 x1 x2 x3 x4 x5 x6) (o : Obj) : C7 (w.alloc o) b x0 x1 x2 x3 x4 x5 x6 := h.below ((Below.refl _ _).alloc (Nat.le_refl _) _)
end Go.Proofs.Ytgcencilgpilaaa.Own

namespace Go.Proofs.Ytgcencilgpilaaa.Own
open Go.RowKit
set_option linter.unusedVariables false
set_option linter.unusedSimpArgs false

/-- Drawn boxes and a run, while it is bent. -/
structure RA (w : World) (B X Z gb : Nat) (bs xs ys : List P2) (rv pv : Value) (v k : Int) : Prop where
  x : Blk w X #[rv, pv, .int .i64 v, .int .i64 k] 27
  z : Blk w Z #[.slice none 0 0, .slice none 0 0, .int .i64 0, .int .i64 0] 27
  r : OwnP 40 w B rv xs
  p : OwnP 36 w B pv ys
  ap : rv.ownBlock = none ∨ rv.ownBlock ≠ pv.ownBlock
  bx : BoxAt w gb 0 bs
  fz : ∀ o, w.frozen? ⟨gb, o, none⟩ = false
  nx : gb ≠ X ∧ gb ≠ Z ∧ X ≠ Z
  nr : ∀ g, rv.ownBlock = some g → g ≠ X ∧ g ≠ Z ∧ g ≠ gb
  np : ∀ g, pv.ownBlock = some g → g ≠ X ∧ g ≠ Z ∧ g ≠ gb
  far : B ≤ X ∧ B ≤ Z ∧ B ≤ gb

theorem Blk.grown {w w' : World} {b : Nat} {C : Array Value} {t : TypeId} {row : Option Nat} (h : Blk w b C t) (hg : w.grownBy w' row) (hn : some b ≠ row) : Blk w' b C t := by
  unfold Blk; rw [hg.block _ h.lt hn]; exact h
theorem BoxAt.grown {w w' : World} {b off : Nat} {xs : List P2} {row : Option Nat} (h : BoxAt w b off xs) (hg : w.grownBy w' row) (hn : some b ≠ row) : BoxAt w' b off xs := by
  have e : ∀ o, w'.cell? ⟨b, o, none⟩ = w.cell? ⟨b, o, none⟩ := fun o => World.cell?_of_block (w := w) (a := ⟨b, o, none⟩) (hg.block b h.1 hn)
  exact ⟨Nat.lt_of_lt_of_le h.1 hg.size, fun i hi => by rw [e, e]; exact h.2 i hi⟩
theorem frozen_grown {w w' : World} {b : Nat} {row : Option Nat} (hb : b < w.heap.size) (hg : w.grownBy w' row) (hn : some b ≠ row) (o : Nat) : w'.frozen? ⟨b, o, none⟩ = w.frozen? ⟨b, o, none⟩ :=
  World.frozen?_of_block (w := w) (a := ⟨b, o, none⟩) (hg.block b hb hn)
theorem Only.gr {rb : Nat} {w w' : World} (h : Only rb w w') : w.grownBy w' (some rb) := ⟨h.os, h.tape, h.output, Nat.le_of_eq h.size.symm, fun k _ hn => h.block k (fun e => hn (by rw [e]))⟩

theorem RA.grown {w w' : World} {B X Z gb rb : Nat} {bs xs ys : List P2} {rv pv : Value} {v k : Int} (h : RA w B X Z gb bs xs ys rv pv v k) (hg : w.grownBy w' (some rb)) (hb : rb < B) : RA w' B X Z gb bs xs ys rv pv v k := by
  obtain ⟨f1, f2, f3⟩ := h.far
  have ne : ∀ b, B ≤ b → some b ≠ some rb := fun b hb' e => by injection e with e; omega
  refine ⟨h.x.grown hg (ne _ f1), h.z.grown hg (ne _ f2), h.r.keep hg ?_, h.p.keep hg ?_, h.ap, h.bx.grown hg (ne _ f3), fun o => by rw [frozen_grown h.bx.1 hg (ne _ f3) o]; exact h.fz o, h.nx, h.nr, h.np, h.far⟩
  · cases e : rv.ownBlock with
    | none => exact .inl rfl
    | some g => exact .inr (ne _ (World.ownsRow.lt h.r g e).1)
  · cases e : pv.ownBlock with
    | none => exact .inl rfl
    | some g => exact .inr (ne _ (World.ownsRow.lt h.p g e).1)

/-- What is left where nothing but the struct's block has turned. -/
theorem RA.other {w w' : World} {B X Z gb Y : Nat} {bs xs ys : List P2} {rv pv : Value} {v k : Int} (h : RA w B X Z gb bs xs ys rv pv v k) (hg : w.grownBy w' (some Y)) (hY : Y = X ∨ Y = Z) :
    OwnP 40 w' B rv xs ∧ OwnP 36 w' B pv ys ∧ BoxAt w' gb 0 bs ∧ (∀ o, w'.frozen? ⟨gb, o, none⟩ = false) := by
  obtain ⟨n1, n2, n3⟩ := h.nx
  have ng : some gb ≠ some Y := fun e => by injection e with e; rcases hY with h | h <;> omega
  refine ⟨h.r.keep hg ?_, h.p.keep hg ?_, h.bx.grown hg ng, fun o => by rw [frozen_grown h.bx.1 hg ng o]; exact h.fz o⟩
  · cases e : rv.ownBlock with
    | none => exact .inl rfl
    | some g => obtain ⟨a, b, c⟩ := h.nr g e; exact .inr fun e => by injection e with e; rcases hY with h | h <;> omega
  · cases e : pv.ownBlock with
    | none => exact .inl rfl
    | some g => obtain ⟨a, b, c⟩ := h.np g e; exact .inr fun e => by injection e with e; rcases hY with h | h <;> omega
theorem RA.setVal {w : World} {B X Z gb : Nat} {bs xs ys : List P2} {rv pv : Value} {v k : Int} (h : RA w B X Z gb bs xs ys rv pv v k) (v' : Int) : RA (w.setCell ⟨X, 2, none⟩ (.int .i64 v')) B X Z gb bs xs ys rv pv v' k := by
  obtain ⟨a, b, c, d⟩ := h.other (w' := w.setCell ⟨X, 2, none⟩ (.int .i64 v')) (grSet (grR _ _) _) (.inl rfl)
  exact ⟨h.x.set 2 _, h.z.other (fun e => h.nx.2.2 e.symm) _ _, a, b, h.ap, c, d, h.nx, h.nr, h.np, h.far⟩
theorem RA.setCode {w : World} {B X Z gb : Nat} {bs xs ys : List P2} {rv pv : Value} {v k : Int} (h : RA w B X Z gb bs xs ys rv pv v k) (k' : Int) : RA (w.setCell ⟨X, 3, none⟩ (.int .i64 k')) B X Z gb bs xs ys rv pv v k' := by
  obtain ⟨a, b, c, d⟩ := h.other (w' := w.setCell ⟨X, 3, none⟩ (.int .i64 k')) (grSet (grR _ _) _) (.inl rfl)
  exact ⟨h.x.set 3 _, h.z.other (fun e => h.nx.2.2 e.symm) _ _, a, b, h.ap, c, d, h.nx, h.nr, h.np, h.far⟩
theorem RA.alloc {w : World} {B X Z gb : Nat} {bs xs ys : List P2} {rv pv : Value} {v k : Int} (h : RA w B X Z gb bs xs ys rv pv v k) (o : Obj) : RA (w.alloc o) B X Z gb bs xs ys rv pv v k := by
  have b : Below w.heap.size w (w.alloc o) := (Below.refl _ _).alloc (Nat.le_refl _) _
  exact ⟨h.x.keep b, h.z.keep b, h.r.below b, h.p.below b, h.ap, h.bx.below b, fun o' => by rw [b.frozen (p := ⟨gb, o', none⟩) h.bx.1]; exact h.fz o', h.nx, h.nr, h.np, h.far⟩

/-- Behind an append to what was looked into. -/
theorem RA.addR {w w1 : World} {B X Z gb gg H cap : Nat} {bs xs ys : List P2} {rv pv : Value} {v k a b : Int} (h : RA w B X Z gb bs xs ys rv pv v k) (hg : w.grownBy w1 rv.ownBlock)
    (ho : w1.ownsRow B 40 2 (.slice (some ⟨gg, 0, none⟩) (xs.length + 1) cap) (xs.length + 1) (flat xs ++ [.int .i64 a, .int .i64 b])) (hat : rv.ownBlock = some gg ∨ gg = H) (hH : w.heap.size ≤ H) :
    RA (w1.setCell ⟨X, 0, none⟩ (.slice (some ⟨gg, 0, none⟩) (xs.length + 1) cap)) B X Z gb bs (xs ++ [(a, b)]) ys (.slice (some ⟨gg, 0, none⟩) (xs.length + 1) cap) pv v k := by
  have hgg : gg ≠ X ∧ gg ≠ Z ∧ gg ≠ gb ∧ (∀ q, pv.ownBlock = some q → gg ≠ q) := by
    rcases hat with e | e
    · obtain ⟨x1, x2, x3⟩ := h.nr gg e
      refine ⟨x1, x2, x3, fun q hq e' => ?_⟩
      rcases h.ap with h' | h'
      · rw [e] at h'; cases h'
      · exact h' (by rw [e, hq, e'])
    · have l1 := h.x.lt
      have l2 := h.z.lt
      have l3 := h.bx.1
      exact ⟨by omega, by omega, by omega, fun q hq e' => by have := (World.ownsRow.lt h.p q hq).2; omega⟩
  have s1 : w1.grownBy (w1.setCell ⟨X, 0, none⟩ (.slice (some ⟨gg, 0, none⟩) (xs.length + 1) cap)) (some X) := grSet (grR _ _) _
  obtain ⟨n1, n2, n3⟩ := h.nx
  have nX : some X ≠ rv.ownBlock := fun e => (h.nr X e.symm).1 rfl
  have nZ : some Z ≠ rv.ownBlock := fun e => (h.nr Z e.symm).2.1 rfl
  have nG : some gb ≠ rv.ownBlock := fun e => (h.nr gb e.symm).2.2 rfl
  refine ⟨(h.x.grown hg nX).set 0 _, (h.z.grown hg nZ).other (fun e => n3 e.symm) _ _, ?_, ?_, .inr fun e => hgg.2.2.2 gg e.symm rfl, (h.bx.grown hg nG).grown s1 (fun e => by injection e with e; exact n1 e), fun o => ?_, h.nx, fun g e => ?_, h.np, h.far⟩
  · have o : OwnP 40 w1 B (.slice (some ⟨gg, 0, none⟩) (xs.length + 1) cap) (xs ++ [(a, b)]) := by
      unfold OwnP
      rw [List.length_append, flat_snocP]
      exact ho
    exact o.keep s1 (.inr fun e => by injection e with e; exact hgg.1 e)
  · refine (h.p.keep hg ?_).keep s1 ?_
    · rcases h.ap with h' | h'
      · rw [h']; cases pv.ownBlock <;> simp
      · exact .inr (Ne.symm h')
    · cases e : pv.ownBlock with
      | none => exact .inl rfl
      | some q => exact .inr fun e' => by injection e' with e'; exact (h.np q e).1 e'
  · rw [frozen_grown (h.bx.grown hg nG).1 s1 (fun e => by injection e with e; exact n1 e) o, frozen_grown h.bx.1 hg nG o]; exact h.fz o
  · have e' : gg = g := Option.some.inj e
    subst e'
    exact ⟨hgg.1, hgg.2.1, hgg.2.2.1⟩
/-- Behind an append to what is put. -/
theorem RA.addP {w w1 : World} {B X Z gb gg H cap : Nat} {bs xs ys : List P2} {rv pv : Value} {v k a b : Int} (h : RA w B X Z gb bs xs ys rv pv v k) (hg : w.grownBy w1 pv.ownBlock)
    (ho : w1.ownsRow B 36 2 (.slice (some ⟨gg, 0, none⟩) (ys.length + 1) cap) (ys.length + 1) (flat ys ++ [.int .i64 a, .int .i64 b])) (hat : pv.ownBlock = some gg ∨ gg = H) (hH : w.heap.size ≤ H) :
    RA (w1.setCell ⟨X, 1, none⟩ (.slice (some ⟨gg, 0, none⟩) (ys.length + 1) cap)) B X Z gb bs xs (ys ++ [(a, b)]) rv (.slice (some ⟨gg, 0, none⟩) (ys.length + 1) cap) v k := by
  have hgg : gg ≠ X ∧ gg ≠ Z ∧ gg ≠ gb ∧ (∀ q, rv.ownBlock = some q → gg ≠ q) := by
    rcases hat with e | e
    · obtain ⟨x1, x2, x3⟩ := h.np gg e
      refine ⟨x1, x2, x3, fun q hq e' => ?_⟩
      rcases h.ap with h' | h'
      · rw [hq] at h'; cases h'
      · exact h' (by rw [e, hq, e'])
    · have l1 := h.x.lt
      have l2 := h.z.lt
      have l3 := h.bx.1
      exact ⟨by omega, by omega, by omega, fun q hq e' => by have := (World.ownsRow.lt h.r q hq).2; omega⟩
  have s1 : w1.grownBy (w1.setCell ⟨X, 1, none⟩ (.slice (some ⟨gg, 0, none⟩) (ys.length + 1) cap)) (some X) := grSet (grR _ _) _
  obtain ⟨n1, n2, n3⟩ := h.nx
  have nX : some X ≠ pv.ownBlock := fun e => (h.np X e.symm).1 rfl
  have nZ : some Z ≠ pv.ownBlock := fun e => (h.np Z e.symm).2.1 rfl
  have nG : some gb ≠ pv.ownBlock := fun e => (h.np gb e.symm).2.2 rfl
  refine ⟨(h.x.grown hg nX).set 1 _, (h.z.grown hg nZ).other (fun e => n3 e.symm) _ _, ?_, ?_, ?_, (h.bx.grown hg nG).grown s1 (fun e => by injection e with e; exact n1 e), fun o => ?_, h.nx, h.nr, fun g e => ?_, h.far⟩
  · refine (h.r.keep hg ?_).keep s1 ?_
    · rcases h.ap with h' | h'
      · exact .inl h'
      · exact .inr h'
    · cases e : rv.ownBlock with
      | none => exact .inl rfl
      | some q => exact .inr fun e' => by injection e' with e'; exact (h.nr q e).1 e'
  · have o : OwnP 36 w1 B (.slice (some ⟨gg, 0, none⟩) (ys.length + 1) cap) (ys ++ [(a, b)]) := by
      unfold OwnP
      rw [List.length_append, flat_snocP]
      exact ho
    exact o.keep s1 (.inr fun e => by injection e with e; exact hgg.1 e)
  · cases e : rv.ownBlock with
    | none => exact .inl rfl
    | some q => exact .inr fun e' => hgg.2.2.2 q e (Option.some.inj e').symm
  · rw [frozen_grown (h.bx.grown hg nG).1 s1 (fun e => by injection e with e; exact n1 e) o, frozen_grown h.bx.1 hg nG o]; exact h.fz o
  · have e' : gg = g := Option.some.inj e
    subst e'
    exact ⟨hgg.1, hgg.2.1, hgg.2.2.1⟩

/-- Drawn boxes and a drawn run, all in memory of its own. -/
def DrawnRun (w w' : World) (rb B p : Nat) (e : Ending) : Prop := ∃ gb bs rv pv xs ys v k, e = .returned (.tuple #[.slice (some ⟨gb, 0, none⟩) (List.length (α := P2) bs) 4, .agg #[rv, pv, .int .i64 v, .int .i64 k]]) ∧ (3 ≤ bs.length ∧ bs.length ≤ 4 ∧ Sm bs) ∧
  (OwnP 40 w' w.heap.size rv xs ∧ OwnP 36 w' w.heap.size pv ys ∧ BoxAt w' gb 0 bs ∧ (∀ o, w'.frozen? ⟨gb, o, none⟩ = false)) ∧ (rv.ownBlock = none ∨ rv.ownBlock ≠ pv.ownBlock) ∧ (∀ g, rv.ownBlock = some g → g ≠ gb) ∧ (∀ g, pv.ownBlock = some g → g ≠ gb) ∧ w.heap.size ≤ gb ∧ (xs.length ≤ 5 ∧ ys.length ≤ 5) ∧ (∃ p', p' ≤ p + 200 ∧ Rd w' rb B p') ∧ Bar rb w w'

theorem RA.fin {w W W' : World} {X Z gb rb B p p' : Nat} {bs xs ys : List P2} {rv pv : Value} {v k : Int} (h : RA W w.heap.size X Z gb bs xs ys rv pv v k) (hl : 3 ≤ bs.length ∧ bs.length ≤ 4 ∧ Sm bs) (hx : xs.length ≤ 5 ∧ ys.length ≤ 5)
    (hR : Rd W rb B p') (hp : p' ≤ p + 200) (hbar : Bar rb w W) (hB : B ≤ w.heap.size) (hg : W.grownBy W' (some Z)) :
    DrawnRun w W' rb B p (.returned (.tuple #[.slice (some ⟨gb, 0, none⟩) (List.length (α := P2) bs) 4, .agg #[rv, pv, .int .i64 v, .int .i64 k]])) := by
  obtain ⟨f1, f2, f3⟩ := h.far
  refine ⟨gb, bs, rv, pv, xs, ys, v, k, rfl, hl, h.other hg (.inr rfl), h.ap, fun g e => (h.nr g e).2.2, fun g e => (h.np g e).2.2, f3, hx, ⟨p', hp, hR.keep hg.size fun i hi => hg.block i (Nat.lt_of_lt_of_le hi hR.2.1) (fun e => by injection e with e; omega)⟩, hbar.grown hg (fun i e => by injection e with e; omega)⟩
end Go.Proofs.Ytgcencilgpilaaa.Own

namespace Go.Proofs.Ytgcencilgpilaaa.Own
open Go.RowKit
set_option linter.unusedVariables false
set_option linter.unusedSimpArgs false

theorem Rd.grownRow {w w' : World} {rb B p : Nat} {row : Option Nat} (h : Rd w rb B p) (hg : w.grownBy w' row) (hr : ∀ g, row = some g → B ≤ g) : Rd w' rb B p :=
  h.keep hg.size fun i hi => hg.block i (Nat.lt_of_lt_of_le hi h.2.1) (fun e => by have := hr i e.symm; omega)
theorem infoPut' : (Try.prog.info? 36).map (fun i => (i.zero, i.size, i.bytes)) = some (some (.agg #[.int .i64 0, .int .i64 0]), 2, 16) := by kernel_rfl

set_option maxRecDepth 100000 in
set_option maxHeartbeats 16000000 in
theorem l3Run (rb B p : Nat) (w : World) (h : Rd w rb B p) (hp : p ≤ 2 ^ 20) :
    Calls Try.prog 62 #[.pointer (some ⟨rb, 0, none⟩)] w fun e w' => DrawnRun w w' rb B p e := by
  have hrb : Hid (rb < w.heap.size) := Nat.lt_of_lt_of_le h.1 h.2.1
  have HBs : Hid (B ≤ w.heap.size) := h.2.1
  obtain ⟨W, hW⟩ : ∃ W, W = w.alloc (.cells #[.slice none 0 0, .slice none 0 0, .int .i64 0, .int .i64 0] 27) := ⟨_, rfl⟩
  have BW : Hid (Below w.heap.size w W) := by show Below _ _ _; rw [hW]; exact below_new _ _
  have SW : Hid (W.heap.size = w.heap.size + 1) := by show _ = _; rw [hW]; simp
  have ZW : Hid (Blk W w.heap.size #[.slice none 0 0, .slice none 0 0, .int .i64 0, .int .i64 0] 27) := by show Blk _ _ _ _; rw [hW]; exact Blk.new _ _ _
  have RW : Hid (Rd W rb B p) := h.below BW.out
  have HW : Hid (W = _) := hW
  clear hW h
  go_enter Try.func62, Try.ntmps62
  go_wp2_with fail
  rw [← HW.out]
  refine (l1Boxes rb B p W RW.out (by omega)).mono ?_
  rintro e w1 ⟨bs, hl, rfl, hat, hsm, ⟨C, hC, _⟩, ⟨p1, hp1, hR1⟩, hbar1⟩
  have D1 : Hid (Rd w1 rb B p1) := hR1
  have A1 : Hid (BoxAt w1 W.heap.size 0 bs ∧ ∀ o, w1.frozen? ⟨W.heap.size, o, none⟩ = false) := ⟨hat, fun o => frozen_heap hC o⟩
  have L1 : Hid (3 ≤ bs.length ∧ bs.length ≤ 4 ∧ Sm bs) := ⟨by omega, by omega, hsm⟩
  have B1 : Hid (Bar rb w w1) := (Bar.ofBelow BW.out).trans hbar1
  have Z1 : Hid (Blk w1 w.heap.size _ _) := ZW.out.grown (row := some rb) ⟨hbar1.os, hbar1.tape, hbar1.output, hbar1.size, fun k hk hn => hbar1.block k hk (fun e => hn (by rw [e]))⟩ (fun e => by injection e with e; have := hrb.out; omega)
  clear hl hat hsm hC hR1 hbar1
  go_wp2_with fail
  refine (l2Bent rb B p1 w1 D1.out (by omega)).mono ?_
  rintro e w2 ⟨g2, cap2, ps, rfl, hown, hl2, _, ⟨p2, hp2, hR2⟩, hbar2⟩
  have D2 : Hid (Rd w2 rb B p2) := hR2
  have gr2 : w1.grownBy w2 (some rb) := ⟨hbar2.os, hbar2.tape, hbar2.output, hbar2.size, fun k hk hn => hbar2.block k hk (fun e => hn (by rw [e]))⟩
  have n1 : some W.heap.size ≠ some rb := fun e => by injection e with e; have := hrb.out; have := SW.out; omega
  have A2 : Hid (BoxAt w2 W.heap.size 0 bs ∧ ∀ o, w2.frozen? ⟨W.heap.size, o, none⟩ = false) := ⟨A1.out.1.grown gr2 n1, fun o => by rw [frozen_grown A1.out.1.1 gr2 n1]; exact A1.out.2 o⟩
  have Z2 : Hid (Blk w2 w.heap.size _ _) := Z1.out.grown gr2 (fun e => by injection e with e; have := hrb.out; omega)
  have B2 : Hid (Bar rb w w2) := B1.out.trans hbar2
  have P2' : Hid (At4 w2 g2 0 ps) := hown.cells.2.1
  clear hown hR2 hbar2 gr2 n1
  go_wp2_with fail
  refine (specRun (some ⟨W.heap.size, 0, none⟩) (some ⟨g2, 0, none⟩) 4 cap2 bs ps w2 (.inr ⟨_, _, rfl, A2.out.1⟩) (.inr ⟨_, _, rfl, P2'.out⟩) (by have := L1.out.2.1; omega) (by omega)).mono ?_
  rintro e w3 ⟨⟨rv, pv, rfl, hr, hpv, hap⟩, b3⟩
  have F4 := execRun_four bs ps
  generalize execRun bs ps = o at hr hpv F4 ⊢
  obtain ⟨xs, ys, v, k⟩ := o
  simp only at hr hpv F4 ⊢
  obtain ⟨ar, cr, rfl, _, _, _, _⟩ := hr.open
  obtain ⟨ap, cp, rfl, _, _, _, _⟩ := hpv.open
  obtain ⟨X3, hX3⟩ : ∃ X, X = w3.alloc (.cells #[.slice ar xs.length cr, .slice ap ys.length cp, .int .i64 v, .int .i64 k] 27) := ⟨_, rfl⟩
  have c3 : Below w3.heap.size w3 X3 := by rw [hX3]; exact below_new _ _
  have d3 : Below w2.heap.size w2 X3 := b3.trans (c3.mono b3.size)
  have hs23 : w2.heap.size ≤ w3.heap.size := b3.size
  have hsW : W.heap.size < w2.heap.size := A2.out.1.1
  have hz2 := Z2.out.lt
  have R3 : Hid (RA X3 w.heap.size w3.heap.size w.heap.size W.heap.size bs xs ys (.slice ar xs.length cr) (.slice ap ys.length cp) v k) := by
    have := SW.out
    have szw := B2.out.size
    refine ⟨by rw [hX3]; exact Blk.new _ _ _, Z2.out.keep d3, (hr.below c3).lower (by omega), (hpv.below c3).lower (by omega), hap, A2.out.1.below d3, fun o => by rw [d3.frozen (p := ⟨W.heap.size, o, none⟩) A2.out.1.1]; exact A2.out.2 o, ⟨by omega, by omega, by omega⟩, fun g e => ?_, fun g e => ?_, ⟨by omega, by omega, by omega⟩⟩
    · have := World.ownsRow.lt hr g e; exact ⟨by omega, by omega, by omega⟩
    · have := World.ownsRow.lt hpv g e; exact ⟨by omega, by omega, by omega⟩
  have D3 : Hid (Rd X3 rb B p2) := D2.out.below d3
  have B3 : Hid (Bar rb w X3) := B2.out.trans (Bar.ofBelow d3)
  have NN : Hid (w.heap.size ≠ w3.heap.size) := by have := B2.out.size; show _ ≠ _; omega
  have HF4 : Hid (xs.length ≤ 4 ∧ ys.length ≤ 4) := F4
  have HX3 : Hid (X3 = _) := hX3
  clear hX3 c3 d3 hr hpv hap b3 F4 hs23 hsW hz2
  go_wp2_with fail
  rw [← HX3.out]
  refine (pick rb B p2 40 X3 D3.out (by omega) (by omega) (by omega)).mono ?_
  rintro e w4 ⟨⟨c, rfl, c0, c1⟩, hR4, hO4⟩
  have R4 : Hid (RA w4 w.heap.size w3.heap.size w.heap.size W.heap.size bs xs ys (.slice ar xs.length cr) (.slice ap ys.length cp) v k) := R3.out.grown hO4.gr hrb.out
  have D4 : Hid (Rd w4 rb B (p2 + 1)) := hR4
  have B4 : Hid (Bar rb w w4) := B3.out.trans (Bar.ofOnly hO4)
  clear hR4 hO4 R3 D3 B3 HX3
  have FIN : Hid (∀ (V W' : World) (us zs : List P2) (rv pv : Value) (v k : Int) (p' : Nat), RA V w.heap.size w3.heap.size w.heap.size W.heap.size bs us zs rv pv v k → us.length ≤ 5 ∧ zs.length ≤ 5 → Rd V rb B p' → p' ≤ p + 200 → Bar rb w V → V.grownBy W' (some w.heap.size) → DrawnRun w W' rb B p (.returned (.tuple #[.slice (some ⟨W.heap.size, 0, none⟩) (List.length (α := P2) bs) 4, .agg #[rv, pv, .int .i64 v, .int .i64 k]]))) :=
    fun V W' us zs rv pv v k p' h hx hR hp hb hg => h.fin L1.out hx hR hp hb HBs.out hg
  have l5 : Hid (xs.length ≤ 5 ∧ ys.length ≤ 5) := ⟨by have := HF4.out.1; omega, by have := HF4.out.2; omega⟩
  have lp : Hid (p2 + 3 ≤ p + 200) := by show _ ≤ _; omega
  have nn := NN.out
  have nn' : ¬ w3.heap.size = w.heap.size := fun e => nn e.symm
  have BX : Hid (w.heap.size ≤ w3.heap.size ∧ B ≤ w3.heap.size) := ⟨R4.out.far.1, Nat.le_trans HBs.out R4.out.far.1⟩
  have BB : Hid (B ≤ w.heap.size) := HBs.out
  clear A1 A2 B1 B2 Z1 Z2 D1 D2 P2' BW SW ZW RW HW L1 HBs
  by_cases h0 : c = 0
  · subst h0
    go_wp2_with fail
    refine (num rb B (p2 + 1) w4.heap.size 3 3 [-1, 4, 1] (w4.alloc (.cells #[.int .i64 (-1), .int .i64 4, .int .i64 1] 3)) (D4.out.alloc _) (by omega) (nums_new _ _ _ _ rfl) rfl (by omega) (by omega) (by have := D4.out.1; have := D4.out.2.1; omega)).mono ?_
    rintro e w5 ⟨⟨r, rfl, _⟩, hR5, hO5⟩
    have r5 := (R4.out.alloc (.cells #[.int .i64 (-1), .int .i64 4, .int .i64 1] 3)).grown hO5.gr hrb.out
    have R6 : Hid _ := r5.setCode r
    have D6 : Hid _ := hR5.setCell (q := ⟨w3.heap.size, 3, none⟩) BX.out.2 (.int .i64 r)
    have B6 : Hid _ := ((B4.out.alloc _).trans (Bar.ofOnly hO5)).setCell (p := ⟨w3.heap.size, 3, none⟩) BX.out.1 (.int .i64 r)
    obtain ⟨x0, x1, x2, x3⟩ := r5.x.cells4
    obtain ⟨z0, z1, z2, z3⟩ := r5.z.cells4
    have fx := r5.x.frozen
    have fz := r5.z.frozen
    clear r5 hR5 hO5
    go_wp2
    go_region
    all_goals
      go_wp2
      refine bodyPost_ret (v := .tuple #[.slice (some ⟨W.heap.size, 0, none⟩) bs.length 4, .agg #[.slice ar xs.length cr, .slice ap ys.length cp, .int .i64 v, .int .i64 r]]) (by simp [results, Try.results62, go_sem, z0, z1, z2, z3, nn, nn']) rfl ?_
      refine FIN.out (w5.setCell ⟨w3.heap.size, 3, none⟩ (.int .i64 r)) _ xs ys _ _ _ _ _ R6.out l5.out D6.out (by have := lp.out; omega) B6.out ?_
      repeat (first | (with_reducible exact grR _ _) | (with_reducible apply grSet) | (with_reducible apply grDrew) | (with_reducible apply grDrewN))
  by_cases h1 : c = 1
  · subst h1
    obtain ⟨i0, hi0, hz0, hz1, hz2⟩ := info_parts infoRead
    have hN : Hid (xs.length + 1 ≤ maxLen) := by show _ ≤ _; unfold maxLen; have := HF4.out; omega
    have hBy : Hid ((xs.length + 1) * 16 ≤ 140737488355328) := by show _ ≤ _; have := HF4.out; omega
    have PK : Hid (Calls Try.prog 76 #[.pointer (some ⟨rb, 0, none⟩), .int .i64 5] w4.drew fun e w' => ∃ z : Int, e = .returned (.int .i64 z) ∧ 0 ≤ z ∧ z < 5 ∧ Hid (RA w' w.heap.size w3.heap.size w.heap.size W.heap.size bs xs ys (.slice ar xs.length cr) (.slice ap ys.length cp) v k ∧ Rd w' rb B (p2 + 1 + 1) ∧ Bar rb w w')) := by
      refine (pick rb B (p2 + 1) 5 w4.drew (D4.out.below ((Below.refl _ _).drew)) (by omega) (by omega) (by omega)).mono ?_
      rintro e w' ⟨⟨z, rfl, z0, z1⟩, hR, hO⟩
      have g : w4.grownBy w' (some rb) := (grDrew (grR _ _)).trans hO.gr
      exact ⟨z, rfl, z0, z1, R4.out.grown g hrb.out, hR, (B4.out.trans (Bar.ofBelow ((Below.refl w4.heap.size w4).drew))).trans (Bar.ofOnly hO)⟩
    have QA : Hid (∀ (w' : World) (z : Int), RA w' w.heap.size w3.heap.size w.heap.size W.heap.size bs xs ys (.slice ar xs.length cr) (.slice ap ys.length cp) v k → w'.cell? ⟨w3.heap.size, 0, none⟩ = some (.slice ar xs.length cr) ∧ (w'.alloc (.cells #[.int .i64 z, .int .i64 0] 40)).cell? ⟨w3.heap.size, 0, none⟩ = some (.slice ar xs.length cr)) := fun w' z h => ⟨by rw [h.x.cell]; rfl, by rw [(h.alloc _).x.cell]; rfl⟩
    have AFT : Hid (∀ (w' : World) (z : Int) (w6 : World), RA w' w.heap.size w3.heap.size w.heap.size W.heap.size bs xs ys (.slice ar xs.length cr) (.slice ap ys.length cp) v k → (w'.alloc (.cells #[.int .i64 z, .int .i64 0] 40)).grownBy w6 (Value.ownBlock (.slice ar xs.length cr)) → Blk w6 w3.heap.size #[.slice ar xs.length cr, .slice ap ys.length cp, .int .i64 v, .int .i64 k] 27 ∧ Blk w6 w.heap.size #[.slice none 0 0, .slice none 0 0, .int .i64 0, .int .i64 0] 27) := fun w' z w6 h hg =>
      ⟨(h.alloc _).x.grown hg (fun e => (h.nr _ e.symm).1 rfl), (h.alloc _).z.grown hg (fun e => (h.nr _ e.symm).2.1 rfl)⟩
    have OF : Hid (∀ g, Value.ownBlock (.slice ar xs.length cr) = some g → w.heap.size ≤ g ∧ B ≤ g) := fun g e => ⟨(World.ownsRow.lt R4.out.r g e).1, Nat.le_trans BB.out (World.ownsRow.lt R4.out.r g e).1⟩
    obtain ⟨x0, x1, x2, x3⟩ := R4.out.x.cells4
    go_wp2_with fail
    go_region_law ((first | (refine step_append_lies _ (by rfl) _ _ _ (by rfl) w.heap.size 40 i0 _ 2 16 Try.underlying24 hi0 hz0 hz1 hz2 rfl (by omega) (.slice ar xs.length cr) xs.length (flat xs) (by rfl) (HF.out.1.alloc _).r ⟨w5.heap.size, 0, none⟩ 1 1 [.int .i64 z, .int .i64 0] (by rfl) (by rfl) (World.news_of_block (cs := #[.int .i64 z, .int .i64 0]) (t := 40) (fr := (0, 0)) (heap_alloc_new w5 _)) (by simp [Value.oneCell']) (by omega) hN.out hBy.out (by simp; omega) (w5.heap.size + 1) (by simp) ?_; intro gg cap w6 hown1 hgrow hat hlt; have AB := AFT.out w5 _ w6 HF.out.1 hgrow; have f0 : w6.frozen? ⟨w3.heap.size, 0, none⟩ = false := AB.1.frozen _; have c0 : w6.cell? ⟨w3.heap.size, 0, none⟩ = some (.slice ar xs.length cr) := (AB.1.cell _).trans rfl) | (go_simp; go_wp2_with (go_at_call 76; refine Calls.mono PK.out ?_; rintro e w5 ⟨z, rfl, z0, z1, HF⟩; obtain ⟨q0, qa⟩ := QA.out w5 z HF.out.1; have s5 : w.heap.size ≤ w5.heap.size := HF.out.2.2.size))))
    all_goals
      have r6 := (HF.out.1.alloc _).addR hgrow hown1 hat (by simp)
      have R7 : Hid _ := r6
      have D7 : Hid _ := ((HF.out.2.1.alloc _).grownRow hgrow (fun g e => (OF.out g e).2)).setCell (q := ⟨w3.heap.size, 0, none⟩) BX.out.2 (.slice (some ⟨gg, 0, none⟩) (xs.length + 1) cap)
      have B7 : Hid _ := ((HF.out.2.2.alloc _).grown hgrow (fun g e => (OF.out g e).1)).setCell (p := ⟨w3.heap.size, 0, none⟩) BX.out.1 (.slice (some ⟨gg, 0, none⟩) (xs.length + 1) cap)
      obtain ⟨y0, y1, y2, y3⟩ := AB.1.cells4
      obtain ⟨z0', z1', z2, z3⟩ := AB.2.cells4
      have fx := AB.1.frozen
      have fz := AB.2.frozen
      clear r6 hown1 hgrow hat hlt AB
      go_wp2
      go_region
      all_goals
        go_wp2
        refine bodyPost_ret (v := .tuple #[.slice (some ⟨W.heap.size, 0, none⟩) bs.length 4, .agg #[.slice (some ⟨gg, 0, none⟩) (xs.length + 1) cap, .slice ap ys.length cp, .int .i64 v, .int .i64 k]]) (by simp [results, Try.results62, go_sem, z0', z1', z2, z3, nn, nn']) rfl ?_
        refine FIN.out (w6.setCell ⟨w3.heap.size, 0, none⟩ (.slice (some ⟨gg, 0, none⟩) (xs.length + 1) cap)) _ (xs ++ [(z, 0)]) ys _ _ _ _ _ R7.out ⟨by rw [List.length_append]; have := HF4.out.1; simp; omega, l5.out.2⟩ D7.out (by have := lp.out; omega) B7.out ?_
        repeat (first | (with_reducible exact grR _ _) | (with_reducible apply grSet) | (with_reducible apply grDrew) | (with_reducible apply grDrewN))
  by_cases h2 : c = 2
  · subst h2
    obtain ⟨i0, hi0, hz0, hz1, hz2⟩ := info_parts infoPut'
    have hN : Hid (ys.length + 1 ≤ maxLen) := by show _ ≤ _; unfold maxLen; have := HF4.out; omega
    have hBy : Hid ((ys.length + 1) * 16 ≤ 140737488355328) := by show _ ≤ _; have := HF4.out; omega
    have PK : Hid (Calls Try.prog 76 #[.pointer (some ⟨rb, 0, none⟩), .int .i64 6] w4.drew fun e w' => ∃ z : Int, e = .returned (.int .i64 z) ∧ 0 ≤ z ∧ z < 6 ∧ Hid (RA w' w.heap.size w3.heap.size w.heap.size W.heap.size bs xs ys (.slice ar xs.length cr) (.slice ap ys.length cp) v k ∧ Rd w' rb B (p2 + 1 + 1) ∧ Bar rb w w')) := by
      refine (pick rb B (p2 + 1) 6 w4.drew (D4.out.below ((Below.refl _ _).drew)) (by omega) (by omega) (by omega)).mono ?_
      rintro e w' ⟨⟨z, rfl, z0, z1⟩, hR, hO⟩
      have g : w4.grownBy w' (some rb) := (grDrew (grR _ _)).trans hO.gr
      exact ⟨z, rfl, z0, z1, R4.out.grown g hrb.out, hR, (B4.out.trans (Bar.ofBelow ((Below.refl w4.heap.size w4).drew))).trans (Bar.ofOnly hO)⟩
    have QA : Hid (∀ (w' : World) (z : Int), RA w' w.heap.size w3.heap.size w.heap.size W.heap.size bs xs ys (.slice ar xs.length cr) (.slice ap ys.length cp) v k → w'.cell? ⟨w3.heap.size, 1, none⟩ = some (.slice ap ys.length cp) ∧ (w'.alloc (.cells #[.int .i64 z, .int .i64 0] 36)).cell? ⟨w3.heap.size, 1, none⟩ = some (.slice ap ys.length cp)) := fun w' z h => ⟨by rw [h.x.cell]; rfl, by rw [(h.alloc _).x.cell]; rfl⟩
    have AFT : Hid (∀ (w' : World) (z : Int) (w6 : World), RA w' w.heap.size w3.heap.size w.heap.size W.heap.size bs xs ys (.slice ar xs.length cr) (.slice ap ys.length cp) v k → (w'.alloc (.cells #[.int .i64 z, .int .i64 0] 36)).grownBy w6 (Value.ownBlock (.slice ap ys.length cp)) → Blk w6 w3.heap.size #[.slice ar xs.length cr, .slice ap ys.length cp, .int .i64 v, .int .i64 k] 27 ∧ Blk w6 w.heap.size #[.slice none 0 0, .slice none 0 0, .int .i64 0, .int .i64 0] 27) := fun w' z w6 h hg =>
      ⟨(h.alloc _).x.grown hg (fun e => (h.np _ e.symm).1 rfl), (h.alloc _).z.grown hg (fun e => (h.np _ e.symm).2.1 rfl)⟩
    have OF : Hid (∀ g, Value.ownBlock (.slice ap ys.length cp) = some g → w.heap.size ≤ g ∧ B ≤ g) := fun g e => ⟨(World.ownsRow.lt R4.out.p g e).1, Nat.le_trans BB.out (World.ownsRow.lt R4.out.p g e).1⟩
    obtain ⟨x0, x1, x2, x3⟩ := R4.out.x.cells4
    go_wp2_with fail
    go_region_law ((first | (refine step_append_lies _ (by rfl) _ _ _ (by rfl) w.heap.size 36 i0 _ 2 16 Try.underlying25 hi0 hz0 hz1 hz2 rfl (by omega) (.slice ap ys.length cp) ys.length (flat ys) (by rfl) (HF.out.1.alloc _).p ⟨w5.heap.size, 0, none⟩ 1 1 [.int .i64 (IntKind.i64.wrap (z - 1)), .int .i64 0] (by rfl) (by rfl) (World.news_of_block (cs := #[.int .i64 (IntKind.i64.wrap (z - 1)), .int .i64 0]) (t := 36) (fr := (0, 0)) (heap_alloc_new w5 _)) (by simp [Value.oneCell']) (by omega) hN.out hBy.out (by simp; omega) (w5.heap.size + 1) (by simp) ?_; intro gg cap w6 hown1 hgrow hat hlt; have AB := AFT.out w5 _ w6 HF.out.1 hgrow; have f0 : w6.frozen? ⟨w3.heap.size, 1, none⟩ = false := AB.1.frozen _; have c0 : w6.cell? ⟨w3.heap.size, 1, none⟩ = some (.slice ap ys.length cp) := (AB.1.cell _).trans rfl) | (go_simp; go_wp2_with (go_at_call 76; refine Calls.mono PK.out ?_; rintro e w5 ⟨z, rfl, z0, z1, HF⟩; obtain ⟨q0, qa⟩ := QA.out w5 (IntKind.i64.wrap (z - 1)) HF.out.1; have s5 : w.heap.size ≤ w5.heap.size := HF.out.2.2.size))))
    all_goals
      have r6 := (HF.out.1.alloc _).addP hgrow hown1 hat (by simp)
      have R7 : Hid _ := r6
      have D7 : Hid _ := ((HF.out.2.1.alloc _).grownRow hgrow (fun g e => (OF.out g e).2)).setCell (q := ⟨w3.heap.size, 1, none⟩) BX.out.2 (.slice (some ⟨gg, 0, none⟩) (ys.length + 1) cap)
      have B7 : Hid _ := ((HF.out.2.2.alloc _).grown hgrow (fun g e => (OF.out g e).1)).setCell (p := ⟨w3.heap.size, 1, none⟩) BX.out.1 (.slice (some ⟨gg, 0, none⟩) (ys.length + 1) cap)
      obtain ⟨y0, y1, y2, y3⟩ := AB.1.cells4
      obtain ⟨z0', z1', z2, z3⟩ := AB.2.cells4
      have fx := AB.1.frozen
      have fz := AB.2.frozen
      clear r6 hown1 hgrow hat hlt AB
      go_wp2
      go_region
      all_goals
        go_wp2
        refine bodyPost_ret (v := .tuple #[.slice (some ⟨W.heap.size, 0, none⟩) bs.length 4, .agg #[.slice ar xs.length cr, .slice (some ⟨gg, 0, none⟩) (ys.length + 1) cap, .int .i64 v, .int .i64 k]]) (by simp [results, Try.results62, go_sem, z0', z1', z2, z3, nn, nn']) rfl ?_
        refine FIN.out (w6.setCell ⟨w3.heap.size, 1, none⟩ (.slice (some ⟨gg, 0, none⟩) (ys.length + 1) cap)) _ xs (ys ++ [(IntKind.i64.wrap (z - 1), 0)]) _ _ _ _ _ R7.out ⟨l5.out.1, by rw [List.length_append]; have := HF4.out.2; simp; omega⟩ D7.out (by have := lp.out; omega) B7.out ?_
        repeat (first | (with_reducible exact grR _ _) | (with_reducible apply grSet) | (with_reducible apply grDrew) | (with_reducible apply grDrewN))
  obtain ⟨x0, x1, x2, x3⟩ := R4.out.x.cells4
  obtain ⟨z0, z1, z2, z3⟩ := R4.out.z.cells4
  have fx := R4.out.x.frozen
  have fz := R4.out.z.frozen
  by_cases h3 : c = 3
  · subst h3
    have R6 : Hid _ := R4.out.setVal 1000001
    have D6 : Hid _ := D4.out.setCell (q := ⟨w3.heap.size, 2, none⟩) BX.out.2 (.int .i64 1000001)
    have B6 : Hid _ := B4.out.setCell (p := ⟨w3.heap.size, 2, none⟩) BX.out.1 (.int .i64 1000001)
    go_wp2
    go_region
    all_goals
      go_wp2
      refine bodyPost_ret (v := .tuple #[.slice (some ⟨W.heap.size, 0, none⟩) bs.length 4, .agg #[.slice ar xs.length cr, .slice ap ys.length cp, .int .i64 1000001, .int .i64 k]]) (by simp [results, Try.results62, go_sem, z0, z1, z2, z3, nn, nn']) rfl ?_
      refine FIN.out (w4.setCell ⟨w3.heap.size, 2, none⟩ (.int .i64 1000001)) _ xs ys _ _ _ _ _ R6.out l5.out D6.out (by have := lp.out; omega) B6.out ?_
      repeat (first | (with_reducible exact grR _ _) | (with_reducible apply grSet) | (with_reducible apply grDrew) | (with_reducible apply grDrewN))
  have e0 : (c == 0) = false := by simpa using h0
  have e1 : (c == 1) = false := by simpa using h1
  have e2 : (c == 2) = false := by simpa using h2
  have e3 : (c == 3) = false := by simpa using h3
  go_wp2
  go_region
  all_goals
    go_wp2
    refine bodyPost_ret (v := .tuple #[.slice (some ⟨W.heap.size, 0, none⟩) bs.length 4, .agg #[.slice ar xs.length cr, .slice ap ys.length cp, .int .i64 v, .int .i64 k]]) (by simp [results, Try.results62, go_sem, z0, z1, z2, z3, nn, nn']) rfl ?_
    refine FIN.out (w4) _ xs ys _ _ _ _ _ R4.out l5.out D4.out (by have := lp.out; omega) B4.out ?_
    repeat (first | (with_reducible exact grR _ _) | (with_reducible apply grSet) | (with_reducible apply grDrew) | (with_reducible apply grDrewN))
end Go.Proofs.Ytgcencilgpilaaa.Own

namespace Go.Proofs.Ytgcencilgpilaaa.Own
open Go.RowKit
set_option linter.unusedVariables false
set_option linter.unusedSimpArgs false

theorem Bytes.belowE {w w' : World} {a : Option Addr} {n : Nat} (h : Bytes w w.heap.size a n) (hb : Below w.heap.size w w') : Bytes w' w'.heap.size a n := by
  rcases h with h | ⟨b, off, rfl, hlt, hz⟩
  · exact .inl h
  · exact .inr ⟨b, off, rfl, Nat.lt_of_lt_of_le hlt hb.size, fun i hi => by rw [hb.cell (p := ⟨b, off + i, none⟩) hlt]; exact hz i hi⟩

/-- The lists of a run that can be read; they lie in blocks from lo up to hi. -/
structure RunS (w : World) (lo hi : Nat) (a1 : Option Addr) (c1 : Nat) (xs : List P2) (a2 : Option Addr) (c2 : Nat) (ys : List P2) : Prop where
  s1 : Sl w a1 xs
  s2 : Sl w a2 ys
  f1 : ∀ x, a1 = some x → lo ≤ x.block ∧ x.block < hi
  f2 : ∀ x, a2 = some x → lo ≤ x.block ∧ x.block < hi
  l1 : xs.length ≤ 5
  l2 : ys.length ≤ 5
  k1 : xs.length ≤ c1
  k2 : ys.length ≤ c2
theorem RunS.below {w w' : World} {lo hi : Nat} {a1 a2 : Option Addr} {c1 c2 : Nat} {xs ys : List P2} (h : RunS w lo hi a1 c1 xs a2 c2 ys) (hb : Below w.heap.size w w') : RunS w' lo hi a1 c1 xs a2 c2 ys := ⟨h.s1.below hb, h.s2.below hb, h.f1, h.f2, h.l1, h.l2, h.k1, h.k2⟩
theorem RunS.turned {L : List Nat} {w w' : World} {lo hi : Nat} {a1 a2 : Option Addr} {c1 c2 : Nat} {xs ys : List P2} (h : RunS w lo hi a1 c1 xs a2 c2 ys) (ht : Turned L w w') (hL : ∀ x, x ∈ L → x < lo ∨ hi ≤ x) : RunS w' lo hi a1 c1 xs a2 c2 ys :=
  ⟨h.s1.turned ht (fun x e hx => by have := h.f1 x e; have := hL _ hx; omega), h.s2.turned ht (fun x e hx => by have := h.f2 x e; have := hL _ hx; omega), h.f1, h.f2, h.l1, h.l2, h.k1, h.k2⟩

/-- What a draw of a run leaves, for one who reads. -/
theorem DrawnRun.open {w w' : World} {rb B p : Nat} {e : Ending} (h : DrawnRun w w' rb B p e) :
    ∃ gb bs a1 c1 xs a2 c2 ys v k, e = .returned (.tuple #[.slice (some ⟨gb, 0, none⟩) (List.length (α := P2) bs) 4, .agg #[.slice a1 (List.length (α := P2) xs) c1, .slice a2 (List.length (α := P2) ys) c2, .int .i64 v, .int .i64 k]]) ∧ (3 ≤ bs.length ∧ bs.length ≤ 4) ∧ RunS w' w.heap.size w'.heap.size a1 c1 xs a2 c2 ys ∧ BoxAt w' gb 0 bs ∧ (∀ o, w'.frozen? ⟨gb, o, none⟩ = false) ∧ (∀ x, a1 = some x → x.block ≠ gb) ∧ (∀ x, a2 = some x → x.block ≠ gb) ∧ w.heap.size ≤ gb ∧ (∃ p', p' ≤ p + 200 ∧ Rd w' rb B p') ∧ Bar rb w w' := by
  obtain ⟨gb, bs, rv, pv, xs, ys, v, k, rfl, hl, ⟨hr, hp, hb, hf⟩, hap, n1, n2, hg, ⟨l1, l2⟩, hR, hbar⟩ := h
  obtain ⟨a1, c1, rfl, s1, k1, _, o1⟩ := hr.open
  obtain ⟨a2, c2, rfl, s2, k2, _, o2⟩ := hp.open
  exact ⟨gb, bs, a1, c1, xs, a2, c2, ys, v, k, rfl, ⟨hl.1, hl.2.1⟩, ⟨s1, s2, fun x e => World.ownsRow.lt hr _ (o1 x e).1, fun x e => World.ownsRow.lt hp _ (o2 x e).1, l1, l2, k1, k2⟩, hb, hf, fun x e => n1 _ (o1 x e).1, fun x e => n2 _ (o2 x e).1, hg, hR, hbar⟩

def TwoRuns (w w' : World) (e : Ending) : Prop := ∃ a1 c1 xs a2 c2 ys v k b1 d1 zs b2 d2 us v' k', e = .returned (.tuple #[.agg #[.slice a1 (List.length (α := P2) xs) c1, .slice a2 (List.length (α := P2) ys) c2, .int .i64 v, .int .i64 k], .agg #[.slice b1 (List.length (α := P2) zs) d1, .slice b2 (List.length (α := P2) us) d2, .int .i64 v', .int .i64 k']]) ∧ (∃ lo hi, RunS w' lo hi a1 c1 xs a2 c2 ys) ∧ (∃ lo hi, RunS w' lo hi b1 d1 zs b2 d2 us) ∧ Below w.heap.size w w'

set_option maxRecDepth 100000 in
set_option maxHeartbeats 4000000 in
theorem drawExecSame (a : Option Addr) (n c : Nat) (w : World) (h : Bytes w w.heap.size a n) (hc : n ≤ c) (hm : c ≤ maxLen) :
    Calls Try.prog 22 #[.slice a n c] w fun e w' => TwoRuns w w' e := by
  have HB : Hid (Bytes w w.heap.size a n) := h
  have HM : Hid (c ≤ maxLen) := hm
  clear h
  unfold maxLen at hm
  obtain ⟨W, hW⟩ : ∃ W, W = (w.alloc (.cells #[.slice none 0 0, .slice none 0 0, .int .i64 0, .int .i64 0] 27)).alloc (.cells #[.slice none 0 0, .slice none 0 0, .int .i64 0, .int .i64 0] 27) := ⟨_, rfl⟩
  have BW : Hid (Below w.heap.size w W) := by show Below _ _ _; rw [hW]; exact ((Below.refl _ _).alloc (Nat.le_refl _) _).alloc (by simp) _
  have SW : Hid (W.heap.size = w.heap.size + 2) := by show _ = _; rw [hW]; simp
  have ZA : Hid (Blk W w.heap.size #[.slice none 0 0, .slice none 0 0, .int .i64 0, .int .i64 0] 27) := by show Blk _ _ _ _; rw [hW]; exact (Blk.new _ _ _).alloc _
  have ZB : Hid (Blk W (w.heap.size + 1) #[.slice none 0 0, .slice none 0 0, .int .i64 0, .int .i64 0] 27) := by show Blk _ _ _ _; rw [hW]; exact Blk.new2 _ _ _ _
  have HW : Hid (W = _) := hW
  clear hW
  go_enter Try.func22, Try.ntmps22
  go_wp2_with fail
  rw [← HW.out]
  refine (l15Open a n c W (HB.out.belowE BW.out) hc HM.out).mono ?_
  rintro e w1 ⟨rfl, hR, hb⟩
  have R1 : Hid (Rd w1 W.heap.size (W.heap.size + 1) 0) := hR
  have B1 : Hid (Below W.heap.size W w1) := hb
  clear hR hb
  go_wp2_with fail
  refine (l3Run W.heap.size (W.heap.size + 1) 0 w1 R1.out (by omega)).mono ?_
  rintro e w2 hd
  obtain ⟨gb, bs, a1, c1, xs, a2, c2, ys, v, k, rfl, _, hrs, _, _, _, _, _, _, hbar⟩ := hd.open
  obtain ⟨X2, hX2⟩ : ∃ X, X = w2.alloc (.cells #[.slice a1 xs.length c1, .slice a2 ys.length c2, .int .i64 v, .int .i64 k] 27) := ⟨_, rfl⟩
  have c2' : Below w2.heap.size w2 X2 := by rw [hX2]; exact below_new _ _
  have b12 : Below W.heap.size W w2 := B1.out.trans (hbar.below (Nat.le_refl _) B1.out.size)
  have B2 : Hid (Below W.heap.size W X2) := b12.trans (c2'.mono b12.size)
  have S2 : Hid (RunS X2 w1.heap.size w2.heap.size a1 c1 xs a2 c2 ys) := hrs.below c2'
  have X2b : Hid (Blk X2 w2.heap.size #[.slice a1 xs.length c1, .slice a2 ys.length c2, .int .i64 v, .int .i64 k] 27) := by show Blk _ _ _ _; rw [hX2]; exact Blk.new _ _ _
  have G2 : Hid (W.heap.size ≤ w2.heap.size) := b12.size
  have HX2 : Hid (X2 = _) := hX2
  clear hX2 c2' b12 hrs hbar hd
  go_wp2_with fail
  rw [← HX2.out]
  refine (l15Open a n c X2 (HB.out.belowE (BW.out.trans (B2.out.mono BW.out.size))) hc HM.out).mono ?_
  rintro e w3 ⟨rfl, hR, hb⟩
  have R3 : Hid (Rd w3 X2.heap.size (X2.heap.size + 1) 0) := hR
  have B3 : Hid (Below X2.heap.size X2 w3) := hb
  clear hR hb
  go_wp2_with fail
  refine (l3Run X2.heap.size (X2.heap.size + 1) 0 w3 R3.out (by omega)).mono ?_
  rintro e w4 hd
  obtain ⟨gb', bs', b1, d1, zs, b2, d2, us, v', k', rfl, _, hrs, _, _, _, _, _, _, hbar⟩ := hd.open
  obtain ⟨X4, hX4⟩ : ∃ X, X = w4.alloc (.cells #[.slice b1 zs.length d1, .slice b2 us.length d2, .int .i64 v', .int .i64 k'] 27) := ⟨_, rfl⟩
  have c4 : Below w4.heap.size w4 X4 := by rw [hX4]; exact below_new _ _
  have b34 : Below X2.heap.size X2 w4 := B3.out.trans (hbar.below (Nat.le_refl _) B3.out.size)
  have d4 : Below X2.heap.size X2 X4 := b34.trans (c4.mono b34.size)
  have S4 : Hid (RunS X4 w1.heap.size w2.heap.size a1 c1 xs a2 c2 ys) := S2.out.below d4
  have T4 : Hid (RunS X4 w3.heap.size w4.heap.size b1 d1 zs b2 d2 us) := hrs.below c4
  have X2c : Hid (Blk X4 w2.heap.size _ _) := X2b.out.keep d4
  have e4 : Below W.heap.size W X4 := B2.out.trans (d4.mono B2.out.size)
  have ZA4 : Hid (Blk X4 w.heap.size _ _) := ZA.out.keep e4
  have ZB4 : Hid (Blk X4 (w.heap.size + 1) _ _) := ZB.out.keep e4
  have X4b : Hid (Blk X4 w4.heap.size #[.slice b1 zs.length d1, .slice b2 us.length d2, .int .i64 v', .int .i64 k'] 27) := by show Blk _ _ _ _; rw [hX4]; exact Blk.new _ _ _
  have W4 : Hid (Below w.heap.size w X4) := BW.out.trans (e4.mono BW.out.size)
  have NN : Hid (w.heap.size + 1 < w2.heap.size ∧ w2.heap.size < w4.heap.size) := ⟨by have := G2.out; have := SW.out; omega, by have := X2b.out.lt; have := b34.size; omega⟩
  have HX4 : Hid (X4 = _) := hX4
  clear hX4 c4 b34 d4 hrs hbar hd e4
  have FIN : Hid (∀ (W' : World) (v'' : Int), Turned [w.heap.size, w.heap.size + 1, w4.heap.size] X4 W' → TwoRuns w W' (.returned (.tuple #[.agg #[.slice a1 xs.length c1, .slice a2 ys.length c2, .int .i64 v, .int .i64 k], .agg #[.slice b1 zs.length d1, .slice b2 us.length d2, .int .i64 v'', .int .i64 k']]))) := by
    intro W' v'' ht
    have s1 := R1.out.2.1
    have s3 := R3.out.2.1
    have nn := NN.out
    have sw := SW.out
    refine ⟨_, _, _, _, _, _, _, _, _, _, _, _, _, _, _, _, rfl, ⟨_, _, S4.out.turned ht (fun x hx => ?_)⟩, ⟨_, _, T4.out.turned ht (fun x hx => ?_)⟩, W4.out.trans (ht.below (fun x hx => ?_) W4.out.size)⟩
    · simp at hx; omega
    · simp at hx; have := X2b.out.lt; omega
    · simp at hx; omega
  obtain ⟨x0, x1, x2, x3⟩ := X2c.out.cells4
  obtain ⟨u0, u1, u2, u3⟩ := X4b.out.cells4
  obtain ⟨z0, z1, z2, z3⟩ := ZA4.out.cells4
  obtain ⟨y0, y1, y2, y3⟩ := ZB4.out.cells4
  have fu := X4b.out.frozen
  have fz := ZA4.out.frozen
  have fy := ZB4.out.frozen
  have HB4 : Hid (Bytes X4 X4.heap.size a n) := HB.out.belowE W4.out
  have n1 : ¬ w4.heap.size = w.heap.size := by have := NN.out; omega
  have n2 : ¬ w4.heap.size = w.heap.size + 1 := by have := NN.out; omega
  have n3 : ¬ w.heap.size = w4.heap.size := by have := NN.out; omega
  have n4 : ¬ w.heap.size + 1 = w4.heap.size := by have := NN.out; omega
  have n5 : ¬ w4.heap.size = w2.heap.size := by have := NN.out; omega
  go_upto_region 3 with fail
  rw [← HX4.out]
  clear HX4 HX2 HW BW SW ZA ZB R1 B1 B2 S2 X2b G2 R3 B3
  by_cases hn0 : n = 0
  · subst hn0
    go_wp2
    go_region
    all_goals
      go_wp2
      refine bodyPost_ret (v := .tuple #[.agg #[.slice a1 xs.length c1, .slice a2 ys.length c2, .int .i64 v, .int .i64 k], .agg #[.slice b1 zs.length d1, .slice b2 us.length d2, .int .i64 v', .int .i64 k']]) (by simp [results, Try.results22, go_sem, z0, z1, z2, z3, y0, y1, y2, y3, n1, n2, n3, n4, n5]) rfl ?_
      refine FIN.out _ _ ?_
      repeat (first | (with_reducible exact Turned.refl _ _) | (with_reducible refine Turned.set ?_ (by simp) _) | (with_reducible refine Turned.drew ?_) | (with_reducible refine Turned.drewN ?_ _))
  · have g0 : decide ((0 : Int) < (n : Int)) = true := by simp; omega
    have g1 : (0 : Int) < (n : Int) := by omega
    rcases HB4.out with h | ⟨b, off, rfl, hlt, hz⟩
    · omega
    obtain ⟨z, hz1, hz2⟩ := hz 0 (by omega)
    rw [Nat.add_zero] at hz2
    clear hz
    cases t : ((z : Int) % 2 == 1) with
    | false =>
      go_wp2
      go_region
      all_goals
        go_wp2
        refine bodyPost_ret (v := .tuple #[.agg #[.slice a1 xs.length c1, .slice a2 ys.length c2, .int .i64 v, .int .i64 k], .agg #[.slice b1 zs.length d1, .slice b2 us.length d2, .int .i64 v', .int .i64 k']]) (by simp [results, Try.results22, go_sem, z0, z1, z2, z3, y0, y1, y2, y3, n1, n2, n3, n4, n5]) rfl ?_
        refine FIN.out _ _ ?_
        repeat (first | (with_reducible exact Turned.refl _ _) | (with_reducible refine Turned.set ?_ (by simp) _) | (with_reducible refine Turned.drew ?_) | (with_reducible refine Turned.drewN ?_ _))
    | true =>
      go_wp2
      go_region
      all_goals
        go_wp2
        refine bodyPost_ret (v := .tuple #[.agg #[.slice a1 xs.length c1, .slice a2 ys.length c2, .int .i64 v, .int .i64 k], .agg #[.slice b1 zs.length d1, .slice b2 us.length d2, .int .i64 (wrap64 (v' + 1)), .int .i64 k']]) (by simp [results, Try.results22, go_sem, z0, z1, z2, z3, y0, y1, y2, y3, n1, n2, n3, n4, n5]) rfl ?_
        refine FIN.out _ _ ?_
        repeat (first | (with_reducible exact Turned.refl _ _) | (with_reducible refine Turned.set ?_ (by simp) _) | (with_reducible refine Turned.drew ?_) | (with_reducible refine Turned.drewN ?_ _))
end Go.Proofs.Ytgcencilgpilaaa.Own

namespace Go.Proofs.Ytgcencilgpilaaa.Own
open Go.RowKit
set_option linter.unusedVariables false
set_option linter.unusedSimpArgs false

def BoxRun (w w' : World) (e : Ending) : Prop := ∃ gb bs a1 c1 xs a2 c2 ys v k, e = .returned (.tuple #[.slice (some ⟨gb, 0, none⟩) (List.length (α := P2) bs) 4, .agg #[.slice a1 (List.length (α := P2) xs) c1, .slice a2 (List.length (α := P2) ys) c2, .int .i64 v, .int .i64 k]]) ∧ bs.length ≤ 4 ∧ BoxAt w' gb 0 bs ∧ (∃ lo hi, RunS w' lo hi a1 c1 xs a2 c2 ys) ∧ Below w.heap.size w w'

theorem RunS.set {w : World} {lo hi gb o : Nat} {a1 a2 : Option Addr} {c1 c2 : Nat} {xs ys : List P2} (h : RunS w lo hi a1 c1 xs a2 c2 ys) (n1 : ∀ x, a1 = some x → x.block ≠ gb) (n2 : ∀ x, a2 = some x → x.block ≠ gb) (u : Value) : RunS (w.setCell ⟨gb, o, none⟩ u) lo hi a1 c1 xs a2 c2 ys := by
  have ht : Turned [gb] w (w.setCell ⟨gb, o, none⟩ u) := (Turned.refl _ _).set (by simp) _
  exact ⟨h.s1.turned ht (fun x e hx => n1 x e (by simpa using hx)), h.s2.turned ht (fun x e hx => n2 x e (by simpa using hx)), h.f1, h.f2, h.l1, h.l2, h.k1, h.k2⟩

set_option maxRecDepth 100000 in
set_option maxHeartbeats 8000000 in
theorem drawExecFresh (a : Option Addr) (n c : Nat) (w : World) (h : Bytes w w.heap.size a n) (hc : n ≤ c) (hm : c ≤ maxLen) :
    Calls Try.prog 23 #[.slice a n c] w fun e w' => BoxRun w w' e := by
  have HB : Hid (Bytes w w.heap.size a n) := h
  have HM : Hid (c ≤ maxLen) := hm
  clear h
  unfold maxLen at hm
  obtain ⟨W, hW⟩ : ∃ W, W = w.alloc (.cells #[.slice none 0 0, .slice none 0 0, .int .i64 0, .int .i64 0] 27) := ⟨_, rfl⟩
  have BW : Hid (Below w.heap.size w W) := by show Below _ _ _; rw [hW]; exact below_new _ _
  have SW : Hid (W.heap.size = w.heap.size + 1) := by show _ = _; rw [hW]; simp
  have ZA : Hid (Blk W w.heap.size #[.slice none 0 0, .slice none 0 0, .int .i64 0, .int .i64 0] 27) := by show Blk _ _ _ _; rw [hW]; exact Blk.new _ _ _
  have HW : Hid (W = _) := hW
  clear hW
  go_enter Try.func23, Try.ntmps23
  go_wp2_with fail
  rw [← HW.out]
  refine (l15Open a n c W (HB.out.belowE BW.out) hc HM.out).mono ?_
  rintro e w1 ⟨rfl, hR, hb⟩
  have R1 : Hid (Rd w1 W.heap.size (W.heap.size + 1) 0) := hR
  have B1 : Hid (Below W.heap.size W w1) := hb
  clear hR hb
  go_wp2_with fail
  refine (l3Run W.heap.size (W.heap.size + 1) 0 w1 R1.out (by omega)).mono ?_
  rintro e w2 hd
  obtain ⟨gb, bs, a1, c1, xs, a2, c2, ys, v, k, rfl, ⟨l3, l4⟩, hrs, hat, hfz, n1, n2, hgb, ⟨p', hp', hR2⟩, hbar⟩ := hd.open
  obtain ⟨X2, hX2⟩ : ∃ X, X = w2.alloc (.cells #[.slice a1 xs.length c1, .slice a2 ys.length c2, .int .i64 v, .int .i64 k] 27) := ⟨_, rfl⟩
  have c2' : Below w2.heap.size w2 X2 := by rw [hX2]; exact below_new _ _
  have b12 : Below W.heap.size W w2 := B1.out.trans (hbar.below (Nat.le_refl _) B1.out.size)
  have B2 : Hid (Below W.heap.size W X2) := b12.trans (c2'.mono b12.size)
  have S2 : Hid (RunS X2 w1.heap.size w2.heap.size a1 c1 xs a2 c2 ys) := hrs.below c2'
  have X2b : Hid (Blk X2 w2.heap.size #[.slice a1 xs.length c1, .slice a2 ys.length c2, .int .i64 v, .int .i64 k] 27) := by show Blk _ _ _ _; rw [hX2]; exact Blk.new _ _ _
  have A2 : Hid (BoxAt X2 gb 0 bs ∧ ∀ o, X2.frozen? ⟨gb, o, none⟩ = false) := ⟨hat.below c2', fun o => by rw [c2'.frozen (p := ⟨gb, o, none⟩) hat.1]; exact hfz o⟩
  have R2 : Hid (Rd X2 W.heap.size (W.heap.size + 1) p') := hR2.below c2'
  have N12 : Hid ((∀ x, a1 = some x → x.block ≠ gb) ∧ (∀ x, a2 = some x → x.block ≠ gb)) := ⟨n1, n2⟩
  have GG : Hid (W.heap.size < w1.heap.size ∧ w1.heap.size ≤ gb ∧ gb < w2.heap.size ∧ w.heap.size < W.heap.size) := ⟨by have := R1.out.2.1; omega, hgb, hat.1, by have := SW.out; omega⟩
  have ZA2 : Hid (Blk X2 w.heap.size _ _) := ZA.out.keep B2.out
  have HX2 : Hid (X2 = _) := hX2
  clear hX2 c2' b12 hrs hbar hd hat hfz n1 n2 hgb hR2
  have d0 : decide ((0 : Int) < (bs.length : Int)) = true := by simp; omega
  have d1 : (0 : Int) < (bs.length : Int) := by omega
  go_wp2_with fail
  rw [← HX2.out]
  refine (pick W.heap.size (W.heap.size + 1) p' 2 X2 R2.out (by omega) (by omega) (by omega)).mono ?_
  rintro e w3 ⟨⟨r, rfl, r0, r1⟩, hR, hO⟩
  have R3 : Hid (Rd w3 W.heap.size (W.heap.size + 1) (p' + 1)) := hR
  have t3 : Turned [W.heap.size] X2 w3 := Turned.ofOnly hO (by simp)
  have S3 : Hid (RunS w3 w1.heap.size w2.heap.size a1 c1 xs a2 c2 ys) := S2.out.turned t3 (fun x hx => by have := GG.out; simp at hx; omega)
  have hng : gb ≠ W.heap.size := by have := GG.out; omega
  have A3 : Hid (BoxAt w3 gb 0 bs ∧ ∀ o, w3.frozen? ⟨gb, o, none⟩ = false) := ⟨A2.out.1.only hO hng, fun o => by rw [World.frozen?_of_block (w := X2) (a := ⟨gb, o, none⟩) (hO.block gb hng)]; exact A2.out.2 o⟩
  have X3b : Hid (Blk w3 w2.heap.size _ _) := X2b.out.grown hO.gr (fun e => by injection e with e; have := GG.out; omega)
  have ZA3 : Hid (Blk w3 w.heap.size _ _) := ZA2.out.grown hO.gr (fun e => by injection e with e; have := GG.out; omega)
  have B3 : Hid (Below w.heap.size w w3) := (BW.out.trans (B2.out.mono BW.out.size)).trans (t3.below (fun x hx => by have := GG.out; simp at hx; omega) (BW.out.trans (B2.out.mono BW.out.size)).size)
  have FIN : Hid (∀ (V W' : World) (bs' : List P2), bs'.length = bs.length → BoxAt V gb 0 bs' → RunS V w1.heap.size w2.heap.size a1 c1 xs a2 c2 ys → Below w.heap.size w V → Turned [w.heap.size] V W' → BoxRun w W' (.returned (.tuple #[.slice (some ⟨gb, 0, none⟩) bs.length 4, .agg #[.slice a1 xs.length c1, .slice a2 ys.length c2, .int .i64 v, .int .i64 k]]))) := by
    intro V W' bs' hl hat hrs hb ht
    have gg := GG.out
    refine ⟨gb, bs', a1, c1, xs, a2, c2, ys, v, k, by rw [hl], by omega, hat.turned ht (by simp; omega), ⟨_, _, hrs.turned ht (fun x hx => by simp at hx; omega)⟩, hb.trans (ht.below (fun x hx => by simp at hx; omega) hb.size)⟩
  have m1 : ¬ w2.heap.size = w.heap.size := by have := GG.out; omega
  have m2 : ¬ w.heap.size = w2.heap.size := by have := GG.out; omega
  have m3 : ¬ gb = w.heap.size := by have := GG.out; omega
  have m4 : ¬ w.heap.size = gb := by have := GG.out; omega
  have m5 : ¬ gb = w2.heap.size := by have := GG.out; omega
  have m6 : ¬ w2.heap.size = gb := by have := GG.out; omega
  clear hR hO t3 HX2 HW BW SW ZA ZA2 X2b A2 R2 S2 B1 B2 R1
  by_cases hr : r = 0
  · subst hr
    go_wp2_with fail
    refine (pick W.heap.size (W.heap.size + 1) (p' + 1) bs.length w3 R3.out (by omega) (by omega) (by omega)).mono ?_
    rintro e w4 ⟨⟨i, rfl, i0, i1⟩, hR, hO⟩
    obtain ⟨i, rfl⟩ := Int.eq_ofNat_of_zero_le i0
    have hi : i < bs.length := by omega
    have t4 : Turned [W.heap.size] w3 w4 := Turned.ofOnly hO (by simp)
    have S4 : RunS w4 w1.heap.size w2.heap.size a1 c1 xs a2 c2 ys := S3.out.turned t4 (fun x hx => by have := GG.out; simp at hx; omega)
    have at4 : BoxAt w4 gb 0 bs := A3.out.1.only hO hng
    have fg : ∀ o, w4.frozen? ⟨gb, o, none⟩ = false := fun o => by rw [World.frozen?_of_block (w := w3) (a := ⟨gb, o, none⟩) (hO.block gb hng)]; exact A3.out.2 o
    have X4b : Blk w4 w2.heap.size _ _ := X3b.out.grown hO.gr (fun e => by injection e with e; have := GG.out; omega)
    have ZA4 : Blk w4 w.heap.size _ _ := ZA3.out.grown hO.gr (fun e => by injection e with e; have := GG.out; omega)
    have B4 : Below w.heap.size w w4 := B3.out.trans (t4.below (fun x hx => by have := GG.out; simp at hx; omega) B3.out.size)
    have cv := (at4.2 i hi).1
    rw [Nat.zero_add] at cv
    obtain ⟨ver, hver⟩ : ∃ z, z = (bs.getD i (0, 0)).1 := ⟨_, rfl⟩
    rw [← hver] at cv
    have sv := at4.setVer i hi (wrap64 (ver + 1))
    rw [Nat.zero_add] at sv
    have FIN2 : Hid (∀ W', Turned [w.heap.size] (w4.setCell ⟨gb, i * 2, none⟩ (.int .i64 (wrap64 (ver + 1)))) W' → BoxRun w W' (.returned (.tuple #[.slice (some ⟨gb, 0, none⟩) bs.length 4, .agg #[.slice a1 xs.length c1, .slice a2 ys.length c2, .int .i64 v, .int .i64 k]]))) := fun W' ht =>
      FIN.out _ W' _ (by rw [List.length_set]) sv (S4.set N12.out.1 N12.out.2 _) (B4.setCell (by have := GG.out; show _ ≤ gb; omega) _) ht
    obtain ⟨x0, x1, x2, x3⟩ := X4b.cells4
    obtain ⟨z0, z1, z2, z3⟩ := ZA4.cells4
    have fz := ZA4.frozen
    have hki : (i : Int) < (bs.length : Int) := by omega
    clear hR hO t4 S4 at4 X4b ZA4 B4 sv hver FIN i0 i1
    go_wp2
    go_region
    all_goals
      go_wp2
      refine bodyPost_ret (v := .tuple #[.slice (some ⟨gb, 0, none⟩) bs.length 4, .agg #[.slice a1 xs.length c1, .slice a2 ys.length c2, .int .i64 v, .int .i64 k]]) (by simp [results, Try.results23, go_sem, z0, z1, z2, z3, m1, m2, m3, m4, m5, m6]) rfl ?_
      refine FIN2.out _ ?_
      repeat (first | (with_reducible exact Turned.refl _ _) | (with_reducible refine Turned.set ?_ (by simp) _) | (with_reducible refine Turned.drew ?_) | (with_reducible refine Turned.drewN ?_ _))
  · have hr' : (r == 0) = false := by simpa using hr
    obtain ⟨x0, x1, x2, x3⟩ := X3b.out.cells4
    obtain ⟨z0, z1, z2, z3⟩ := ZA3.out.cells4
    have fz := ZA3.out.frozen
    go_wp2
    go_region
    all_goals
      go_wp2
      refine bodyPost_ret (v := .tuple #[.slice (some ⟨gb, 0, none⟩) bs.length 4, .agg #[.slice a1 xs.length c1, .slice a2 ys.length c2, .int .i64 v, .int .i64 k]]) (by simp [results, Try.results23, go_sem, z0, z1, z2, z3, m1, m2, m3, m4, m5, m6]) rfl ?_
      refine FIN.out w3 _ bs rfl A3.out.1 S3.out B3.out ?_
      repeat (first | (with_reducible exact Turned.refl _ _) | (with_reducible refine Turned.set ?_ (by simp) _) | (with_reducible refine Turned.drew ?_) | (with_reducible refine Turned.drewN ?_ _))
end Go.Proofs.Ytgcencilgpilaaa.Own
