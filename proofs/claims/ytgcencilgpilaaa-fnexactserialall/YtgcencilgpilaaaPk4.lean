/-
  Own texts, bundled: ExecDoS, DoMath, ExecDoS2, L3StepA, L3StepL, L3StepP, Touch, RunFacts, RunFacts2, ProgOkS.
-/
import Derived.Test.YtgcencilgpilaaaPk2
import Derived.Test.YtgcencilgpilaaaPk3
import Derived.Test.YtgcencilgpilaaaPk1
import Derived.StillTailTactics
import Derived.Deep.RegionWith
import Derived.BigQuiet
import Derived.Deep.QuietTactic
namespace Go.Proofs.Ytgcencilgpilaaa.Own
open Go.RowKit
set_option linter.unusedVariables false
set_option linter.unusedSimpArgs false

set_option maxHeartbeats 1000000 in
theorem l1Copy (a : Option Addr) (c : Nat) (bs : List P2) (w : World) (h : Sl w a bs) (h4 : bs.length = 4) :
    Calls Try.prog 67 #[.slice a bs.length c] w fun e w' => ∃ g cap, e = .returned (.slice (some ⟨g, 0, none⟩) bs.length cap) ∧ w.heap.size ≤ g ∧ BoxAt w' g 0 bs ∧ (∀ o, w'.frozen? ⟨g, o, none⟩ = false) ∧ Below w.heap.size w w' := by
  rcases h with h | ⟨b, off, rfl, h⟩
  · subst h; simp at h4
  have A : Hid (BoxAt w b off bs) := h
  have L : Hid (bs.length = 4) := h4
  clear h h4
  obtain ⟨i0, hi, hz0, hz1, hz2⟩ := info_parts infoBoxO
  have I0 : Hid (Try.prog.info? 38 = some i0 ∧ i0.zero = some (.agg #[.int .i64 0, .int .i64 0]) ∧ i0.size = 2 ∧ i0.bytes = 16) := ⟨hi, hz0, hz1, hz2⟩
  clear hi hz0 hz1 hz2
  go_enter Try.func67, Try.ntmps67
  go_wp2_with (at_builtin; refine wpList_append_own _ rfl (.tmp 3) (.tmp 4) 23 rfl w.heap.size 38 i0 (.agg #[.int .i64 0, .int .i64 0]) 2 16 Try.underlying23 I0.out.1 I0.out.2.1 I0.out.2.2.1 I0.out.2.2.2 rfl (by decide) (.slice (some ⟨w.heap.size, 0, none⟩) 0 0) 0 [] rfl (own_empty w w.heap.size rfl) ⟨b, off, none⟩ bs.length c (flat bs) rfl (flat_length bs) (flat_atO (A.out.below ((Below.refl _ _).alloc (Nat.le_refl _) _))) (flat_one bs) (small_max (by rw [L.out]; omega)) (by rw [L.out]; omega) (by rw [size_new]; omega) ?_)
  intro v1 w6 hown hgr _
  obtain ⟨g1, cap1, rfl, hg1, hcap1, hat1, hfr1, hb6⟩ := grown_box rfl (by rw [L.out]; omega) hown hgr
  have F : Hid (w.heap.size ≤ g1 ∧ BoxAt w6 g1 0 bs ∧ (∀ o, w6.frozen? ⟨g1, o, none⟩ = false) ∧ Below w.heap.size w w6) := ⟨hg1, hat1, hfr1, hb6⟩
  clear hown hgr hat1 hfr1 hb6 hg1
  go_wp2
  go_ret
  exact ⟨g1, cap1, rfl, F.out⟩

set_option maxHeartbeats 400000 in
theorem l1MinC (x y : Int) (w : World) : Calls Try.prog 117 #[.int .i64 x, .int .i64 y] w fun e w' => e = .returned (.int .i64 (min x y)) ∧ w' = w := by
  by_cases h : x < y
  · have e : min x y = x := by omega
    rw [e]
    go_enter Try.func117, Try.ntmps117
    go_wp2
    go_ret
    exact ⟨rfl, rfl⟩
  · have e : min x y = y := by omega
    rw [e]
    go_enter Try.func117, Try.ntmps117
    go_wp2
    go_ret
    exact ⟨rfl, rfl⟩
end Go.Proofs.Ytgcencilgpilaaa.Own

namespace Go.Proofs.Ytgcencilgpilaaa.Own
open Go.RowKit
set_option linter.unusedVariables false

theorem getD_set2 (xs : List P2) (i j : Nat) (v : P2) (hi : i < xs.length) : (xs.set i v).getD j (0, 0) = if i = j then v else xs.getD j (0, 0) := by
  simp only [List.getD_eq_getElem?_getD, List.getElem?_set]
  by_cases e : i = j
  · simp [e, show j < xs.length by omega]
  · simp [e]

/-- A put, done to boxes. -/
def put1 (bs : List P2) (p : P2) : List P2 := bs.set p.1.toNat (min 1000000 ((bs.getD p.1.toNat (0, 0)).1 + 1), p.2)
def doPuts (bs ys : List P2) : List P2 := ys.foldl put1 bs
def execDo (bs xs ys : List P2) (v k : Int) : List P2 := if boxOk bs && execOk xs ys v k then doPuts bs ys else []

theorem put1_length (bs : List P2) (p : P2) : (put1 bs p).length = bs.length := by simp [put1]
theorem doPuts_length (bs ys : List P2) : (doPuts bs ys).length = bs.length := by
  unfold doPuts
  induction ys generalizing bs with
  | nil => rfl
  | cons y r ih => rw [List.foldl_cons, ih, put1_length]
theorem doPuts_succ (bs ys : List P2) (j : Nat) (h : j < ys.length) : doPuts bs (ys.take (j + 1)) = put1 (doPuts bs (ys.take j)) (ys.getD j (0, 0)) := by
  unfold doPuts
  rw [List.take_succ_eq_append_getElem h, List.foldl_append]
  simp [List.getD, h]

theorem boxOk_iff {bs : List P2} : boxOk bs = true ↔ bs.length = 4 ∧ ∀ i, i < bs.length → boxOk1 (bs.getD i (0, 0)) = true := by
  simp only [boxOk, Bool.and_eq_true, beq_iff_eq, List.all_eq_true]
  constructor
  · rintro ⟨h, h2⟩
    exact ⟨h, fun i hi => h2 _ (by simp [List.getD, hi])⟩
  · rintro ⟨h, h2⟩
    refine ⟨h, fun x hx => ?_⟩
    obtain ⟨i, hi, rfl⟩ := List.getElem_of_mem hx
    simpa [List.getD, hi] using h2 i hi

theorem put1_ok {bs : List P2} {p : P2} (h : boxOk bs = true) (m : Nat) (hm : m < 4) (hp : p.1 = m) (hv : numOk p.2 = true) : boxOk (put1 bs p) = true := by
  have h' := boxOk_iff.1 h
  rw [boxOk_iff]
  refine ⟨by rw [put1_length]; exact h'.1, fun i hi => ?_⟩
  rw [put1_length] at hi
  have e : p.1.toNat = m := by omega
  unfold put1
  rw [e, getD_set2 _ _ _ _ (by omega)]
  by_cases e2 : m = i
  · rw [if_pos e2]
    have := h'.2 m (by omega)
    simp only [boxOk1, Bool.and_eq_true, decide_eq_true_eq] at this ⊢
    exact ⟨⟨by omega, by omega⟩, hv⟩
  · rw [if_neg e2]; exact h'.2 i hi
theorem doPuts_ok {bs ys : List P2} (h : boxOk bs = true) (hy : okAll numOk ys = true) : ∀ j, j ≤ ys.length → boxOk (doPuts bs (ys.take j)) = true
  | 0, _ => by simpa [doPuts] using h
  | j + 1, hj => by
    rw [doPuts_succ _ _ _ (by omega)]
    obtain ⟨m, hm, hp⟩ := okAll_box hy j (by omega)
    have := okAll_iff.1 hy j (by omega)
    simp only [okAt, Bool.and_eq_true] at this
    exact put1_ok (doPuts_ok h hy j (by omega)) m hm hp this.1.2
theorem boxOk_ver {bs : List P2} (h : boxOk bs = true) (i : Nat) (hi : i < 4) : 0 ≤ (bs.getD i (0, 0)).1 ∧ (bs.getD i (0, 0)).1 ≤ 1000000 := by
  have h' := boxOk_iff.1 h
  have := h'.2 i (by omega)
  simp only [boxOk1, Bool.and_eq_true, decide_eq_true_eq] at this
  exact this.1

theorem BoxAt.setBoth {w : World} {b off : Nat} {xs : List P2} (h : BoxAt w b off xs) (i : Nat) (hi : i < xs.length) (p q : Int) : BoxAt ((w.setCell ⟨b, off + i * 2, none⟩ (.int .i64 p)).setCell ⟨b, off + i * 2 + 1, none⟩ (.int .i64 q)) b off (xs.set i (p, q)) := by
  refine ⟨by simpa [World.setCell] using h.1, fun j hj => ?_⟩
  rw [List.length_set] at hj
  rw [getD_set2 _ _ _ _ hi]
  by_cases e : i = j
  · subst e
    rw [if_pos rfl]
    exact ⟨by rw [setCell_cell_other _ _ _ _ _ (by omega)]; exact setCell_cell_same _ _ _ _ _ (h.2 i hi).1, setCell_cell_same _ _ _ _ _ (by rw [setCell_cell_other _ _ _ _ _ (by omega)]; exact (h.2 i hi).2)⟩
  · rw [if_neg e, setCell_cell_other _ _ _ _ _ (by omega), setCell_cell_other _ _ _ _ _ (by omega), setCell_cell_other _ _ _ _ _ (by omega), setCell_cell_other _ _ _ _ _ (by omega)]
    exact h.2 j hj
end Go.Proofs.Ytgcencilgpilaaa.Own

namespace Go.Proofs.Ytgcencilgpilaaa.Own
open Go.RowKit
set_option linter.unusedVariables false
set_option linter.unusedSimpArgs false

theorem region_still_tail {P : Program} {id : Nat} {Q : Exit → Act → World → Prop} {a : Act} {w : World} {l : List Oper} (n : Nat) (hm : P.follows .mixedOrders = true) (hB : Region.lexTailB .any l.toArray n = true)
    (h : wpStill P l.toArray w.drew (fun a' => wpList P l.toArray Q (l.drop n) a' w.drew) (l.take n) a) : (Code.region id l.toArray true).wp P Q a w := wp_region_still_tail n hm hB h

set_option maxRecDepth 100000 in
set_option maxHeartbeats 2000000 in
theorem l3Do (g cap : Nat) (bs : List P2) (a1 a2 : Option Addr) (n1 c1 c2 : Nat) (ys : List P2) (v k : Int) (w : World) (hbs : boxOk bs = true) (hat : BoxAt w g 0 bs) (hfr : ∀ o, w.frozen? ⟨g, o, none⟩ = false) (h2 : Sl w a2 ys) (hg : ys = [] ∨ ∀ x, a2 = some x → x.block ≠ g) (hn2 : ys.length ≤ 2 ^ 40) (hy : okAll numOk ys = true) :
    Calls Try.prog 66 #[.slice (some ⟨g, 0, none⟩) 4 cap, .agg #[.slice a1 n1 c1, .slice a2 ys.length c2, .int .i64 v, .int .i64 k]] w fun e w' => e = .returned (.slice (some ⟨g, 0, none⟩) 4 cap) ∧ BoxAt w' g 0 (doPuts bs ys) ∧ (∀ o, w'.frozen? ⟨g, o, none⟩ = false) ∧ Bar g w w' := by
  have HA : Hid (BoxAt w g 0 bs) := hat
  have HF : Hid (∀ o, w.frozen? ⟨g, o, none⟩ = false) := hfr
  have H2 : Hid (Sl w a2 ys) := h2
  have HG : Hid (ys = [] ∨ ∀ x, a2 = some x → x.block ≠ g) := hg
  have HY : Hid (okAll numOk ys = true) := hy
  have HBO : Hid (boxOk bs = true) := hbs
  have HL : Hid (bs.length = 4) := boxOk_len hbs
  clear hat hfr h2 hg hy hbs
  obtain ⟨W, hW⟩ : ∃ W, W = w.alloc (.cells #[.slice a1 n1 c1, .slice a2 ys.length c2, .int .i64 v, .int .i64 k] 27) := ⟨_, rfl⟩
  have BW : Hid (Below w.heap.size w W) := by show Below _ _ _; rw [hW]; exact below_new _ _
  have P0 : Hid (C4 W w.heap.size (.slice a1 n1 c1) (.slice a2 ys.length c2) (.int .i64 v) (.int .i64 k)) := by show C4 _ _ _ _ _ _; rw [hW]; exact C4.new _ _ _ _ _ _
  have HW : Hid (W = _) := hW
  clear hW
  have hgw : g < w.heap.size := HA.out.1
  obtain ⟨_, q0, q1, q2, q3⟩ := P0.out
  go_enter Try.func66, Try.ntmps66
  go_upto_region 1 with fail
  rw [← HW.out]
  go_wp2_with fail
  clear q0 q1 q2 q3
  go_loopw [5, 6] (fun i b wr => ∃ j : Nat, j ≤ ys.length ∧ i = .int .i64 j ∧ BoxAt wr g 0 (doPuts bs (ys.take j)) ∧ (∀ o, wr.frozen? ⟨g, o, none⟩ = false) ∧ Bar g W wr) (fun i _ _ => ys.length - (intOf i).toNat)
  case atStart => exact ⟨0, Nat.zero_le _, rfl, by simpa [doPuts] using HA.out.below BW.out, fun o => by rw [BW.out.frozen (p := ⟨g, o, none⟩) hgw]; exact HF.out o, Bar.refl _ _⟩
  case round =>
    obtain ⟨j, hj, rfl, hA, hF, hB⟩ := hrel
    have HAt : Hid (BoxAt wr g 0 (doPuts bs (ys.take j))) := hA
    have HFr : Hid (∀ o, wr.frozen? ⟨g, o, none⟩ = false) := hF
    have HB : Hid (Bar g W wr) := hB
    have hc : ∀ o, wr.cell? ⟨w.heap.size, o, none⟩ = W.cell? ⟨w.heap.size, o, none⟩ := fun o => World.cell?_of_block (w := W) (a := ⟨w.heap.size, o, none⟩) (hB.block w.heap.size P0.out.1 (by omega))
    have q1 : wr.cell? ⟨w.heap.size, 1, none⟩ = some (.slice a2 ys.length c2) := by rw [hc]; exact P0.out.2.2.1
    clear hA hF hc
    by_cases hlt : j < ys.length
    · rcases H2.out with h | ⟨b1, o1, rfl, h1⟩
      · subst h; simp at hlt
      have hb1 : b1 ≠ g := by
        rcases HG.out with h | h
        · subst h; simp at hlt
        · exact h _ rfl
      have H1' : Hid (BoxAt wr b1 o1 ys) := by
        have h := h1.below BW.out
        have hc : ∀ o, wr.cell? ⟨b1, o, none⟩ = W.cell? ⟨b1, o, none⟩ := fun o => World.cell?_of_block (w := W) (a := ⟨b1, o, none⟩) (hB.block b1 h.1 hb1)
        exact ⟨Nat.lt_of_lt_of_le h.1 hB.size, fun i hi => by rw [hc, hc]; exact h.2 i hi⟩
      clear h1 hB
      obtain ⟨p, hp⟩ : ∃ p, p = ys.getD j (0, 0) := ⟨_, rfl⟩
      obtain ⟨ca, cb⟩ := H1'.out.2 j hlt
      rw [← hp] at ca cb
      have HP : Hid (p = ys.getD j (0, 0)) := hp
      clear hp
      obtain ⟨p1, p2⟩ := p
      obtain ⟨m, hm, hm1⟩ := okAll_box HY.out j hlt
      rw [← HP.out] at hm1
      have hm2 : p1 = (m : Int) := hm1
      clear hm1
      subst hm2
      have OKj := doPuts_ok HBO.out HY.out j hj
      have hver := boxOk_ver OKj m hm
      have hlen : (doPuts bs (ys.take j)).length = 4 := by rw [doPuts_length]; exact HL.out
      have HS : Hid (doPuts bs (ys.take (j + 1)) = (doPuts bs (ys.take j)).set m (min 1000000 (((doPuts bs (ys.take j)).getD m (0, 0)).1 + 1), p2)) := by
        show _ = _
        rw [doPuts_succ _ _ _ hlt, ← HP.out]
        rfl
      generalize doPuts bs (ys.take j) = cur at HAt HS hver hlen
      have HLn : Hid (cur.length = 4) := hlen
      have cx := (HAt.out.2 m (by rw [hlen]; exact hm)).1
      have cy := (HAt.out.2 m (by rw [hlen]; exact hm)).2
      have HN : Hid (BoxAt ((wr.setCell ⟨g, 0 + m * 2, none⟩ (.int .i64 (min 1000000 ((cur.getD m (0, 0)).1 + 1)))).setCell ⟨g, 0 + m * 2 + 1, none⟩ (.int .i64 p2)) g 0 (doPuts bs (ys.take (j + 1)))) := by
        show BoxAt _ _ _ _
        rw [HS.out]; exact HAt.out.setBoth m (by rw [hlen]; exact hm) _ _
      obtain ⟨x, hx⟩ : ∃ x, x = (cur.getD m (0, 0)).1 := ⟨_, rfl⟩
      rw [← hx] at cx hver HN
      have f0 := HFr.out (m * 2)
      have f1 := HFr.out (m * 2 + 1)
      simp only [Nat.zero_add] at cx cy HN
      obtain ⟨y, hy⟩ : ∃ y, y = (cur.getD m (0, 0)).2 := ⟨_, rfl⟩
      rw [← hy] at cy
      clear hx hy hlen
      obtain ⟨hv0, hv1⟩ := hver
      have hne : ¬ g = w.heap.size := by omega
      have hne2 : ¬ g = b1 := fun e => hb1 e.symm
      obtain ⟨z, hz⟩ : ∃ z, z = min 1000000 (x + 1) := ⟨_, rfl⟩
      have HZ : Hid (∀ W, Calls Try.prog 117 #[.int .i64 1000000, .int .i64 (x + 1)] W fun e w' => e = .returned (.int .i64 z) ∧ w' = W) := fun W => by rw [hz]; exact l1MinC _ _ _
      rw [← hz] at HN
      clear hz
      have HBz : Hid (Bar g W ((wr.setCell ⟨g, m * 2, none⟩ (.int .i64 z)).setCell ⟨g, m * 2 + 1, none⟩ (.int .i64 p2))) := HB.out.trans (Bar.ofOnly (((Only.refl g wr).setCell _).setCell _))
      have HFz : Hid (∀ o, ((wr.setCell ⟨g, m * 2, none⟩ (.int .i64 z)).setCell ⟨g, m * 2 + 1, none⟩ (.int .i64 p2)).frozen? ⟨g, o, none⟩ = false) := fun o => by simpa using HFr.out o
      have hw1 : IntKind.i64.wrap (x + 1) = x + 1 := by
        rw [IntKind.wrap_i64]; omega
      have hmi : (m : Int) < 4 := by omega
      have hji : (j : Int) < (ys.length : Int) := by omega
      go_upto_region 5 with fail
      refine region_still_tail 16 (by kernel_rfl) (by kernel_rfl) ?_
      simp only [List.take_succ_cons, List.take_zero, List.drop_succ_cons, List.drop_zero]
      iterate 8 still_step
      still_call (HZ.out _)
      iterate 7 still_step
      refine wpStill_nil ?_
      go_wp2
      go_roundw
      case rel => exact ⟨j + 1, by omega, by go_num, HN.out, HFz.out, HBz.out.os, HBz.out.tape, HBz.out.output, HBz.out.size, HBz.out.block⟩
      case measure => simp [intOf]; omega
    · have hjl : j = ys.length := by omega
      subst hjl
      rw [List.take_length] at HAt
      clear hB
      go_wp2
      go_ret
      refine ⟨rfl, HAt.out, HFr.out, ?_⟩
      exact (Bar.ofBelow BW.out).trans HB.out
end Go.Proofs.Ytgcencilgpilaaa.Own

namespace Go.Proofs.Ytgcencilgpilaaa.Own
open Go.RowKit
set_option linter.unusedVariables false
set_option linter.unusedSimpArgs false

/-- What a step leaves. -/
def StepPost (bs : List P2) (s : RunSt) (p : Q4) (B rg : Nat) (v : Int) (w : World) (e : Ending) (w' : World) : Prop :=
  ∃ rv' pv', e = .returned (.agg #[rv', pv', .int .i64 v, .int .i64 (stepR bs s p).code]) ∧ Held B rg w' rv' pv' (stepR bs s p) ∧ Kp B rg w w'

/-- The cells that l3Step lays: the run, the instruction, what it will say. -/
structure StepMem (N : Nat) (W : World) (rv pv : Value) (v c : Int) : Prop where
  c0 : W.cell? ⟨N, 0, none⟩ = some rv
  c1 : W.cell? ⟨N, 1, none⟩ = some pv
  c2 : W.cell? ⟨N, 2, none⟩ = some (.int .i64 v)
  c3 : W.cell? ⟨N, 3, none⟩ = some (.int .i64 c)
  f : ∀ o, W.frozen? ⟨N, o, none⟩ = false
  y0 : W.cell? ⟨N + 1 + 1, 0, none⟩ = some (.slice none 0 0)
  y1 : W.cell? ⟨N + 1 + 1, 1, none⟩ = some (.slice none 0 0)
  y2 : W.cell? ⟨N + 1 + 1, 2, none⟩ = some (.int .i64 0)
  y3 : W.cell? ⟨N + 1 + 1, 3, none⟩ = some (.int .i64 0)
  g : ∀ o, W.frozen? ⟨N + 1 + 1, o, none⟩ = false
  lt : N + 1 + 1 < W.heap.size
theorem StepMem.turned {L : List Nat} {N : Nat} {W W' : World} {rv pv : Value} {v c : Int} (h : StepMem N W rv pv v c) (ht : Turned L W W') (h0 : N ∉ L) (h2 : N + 1 + 1 ∉ L) : StepMem N W' rv pv v c := by
  have hl := h.lt
  have e : ∀ o, W'.cell? ⟨N, o, none⟩ = W.cell? ⟨N, o, none⟩ := fun o => World.cell?_of_block (w := W) (a := ⟨N, o, none⟩) (ht.block N (by omega) h0)
  have e2 : ∀ o, W'.cell? ⟨N + 1 + 1, o, none⟩ = W.cell? ⟨N + 1 + 1, o, none⟩ := fun o => World.cell?_of_block (w := W) (a := ⟨N + 1 + 1, o, none⟩) (ht.block (N + 1 + 1) (by omega) h2)
  have i : ∀ o, W'.frozen? ⟨N, o, none⟩ = W.frozen? ⟨N, o, none⟩ := fun o => World.frozen?_of_block (w := W) (a := ⟨N, o, none⟩) (ht.block N (by omega) h0)
  have i2 : ∀ o, W'.frozen? ⟨N + 1 + 1, o, none⟩ = W.frozen? ⟨N + 1 + 1, o, none⟩ := fun o => World.frozen?_of_block (w := W) (a := ⟨N + 1 + 1, o, none⟩) (ht.block (N + 1 + 1) (by omega) h2)
  exact ⟨by rw [e]; exact h.c0, by rw [e]; exact h.c1, by rw [e]; exact h.c2, by rw [e]; exact h.c3, fun o => by rw [i]; exact h.f o, by rw [e2]; exact h.y0, by rw [e2]; exact h.y1, by rw [e2]; exact h.y2, by rw [e2]; exact h.y3, fun o => by rw [i2]; exact h.g o, Nat.lt_of_lt_of_le h.lt ht.size⟩

set_option maxRecDepth 100000 in
set_option maxHeartbeats 4000000 in
theorem l3StepA (la : Option Addr) (lc : Nat) (bs : List P2) (rg rc : Nat) (s : RunSt) (rv pv : Value) (p : Q4) (v : Int) (B : Nat) (w : World)
    (hb : Sl w la bs) (l4 : bs.length = 4) (hla : ∀ x, la = some x → x.block < B) (hh : Held B rg w rv pv s) (hrg : rg < B) (hB : B ≤ w.heap.size) (lx : s.reads.length ≤ 1000) (ly : s.puts.length ≤ 1000)
    (hp : insOk p = true) (h6 : p.1 = 3 ∨ p.1 = 7 ∨ p.1 = 4 ∨ p.1 = 5) (hc : s.code = 0) (hn : ∀ i, i < 4 → numOk (s.regs.getD i 0) = true) :
    Calls Try.prog 142 #[.slice la bs.length lc, .agg #[rv, pv, .int .i64 v, .int .i64 s.code], .slice (some ⟨rg, 0, none⟩) 4 rc, .agg #[.int .i64 p.1, .int .i64 p.2.1, .int .i64 p.2.2.1, .int .i64 p.2.2.2]] w fun e w' => StepPost bs s p B rg v w e w' := by
  obtain ⟨kd, pa, pb, pn⟩ := p
  dsimp only at h6 ⊢
  obtain ⟨ar, cr, hrv, slr, hcr, hmr, hbr⟩ := hh.reads.open
  obtain ⟨ap, cp, hpv, slp, hcp, hmp, hbp⟩ := hh.puts.open
  have HH : Hid (Held B rg w rv pv s) := hh
  have HRV : Hid (rv = .slice ar s.reads.length cr) := hrv
  have HPV : Hid (pv = .slice ap s.puts.length cp) := hpv
  have SB : Hid (Sl w la bs) := hb
  have HLA : Hid (∀ x, la = some x → x.block < B) := hla
  have HN : Hid (∀ i, i < 4 → numOk (s.regs.getD i 0) = true) := hn
  have HC : Hid (s.code = 0) := hc
  have HOK : Hid (insOk (kd, pa, pb, pn) = true) := hp
  clear hh slr slp hb hbr hbp hcr hcp hmr hmp hla hn hp
  obtain ⟨W, hW⟩ : ∃ W, W = ((w.alloc (.cells #[.slice ar s.reads.length cr, .slice ap s.puts.length cp, .int .i64 v, .int .i64 0] 27)).alloc (.cells #[.int .i64 kd, .int .i64 pa, .int .i64 pb, .int .i64 pn] 156)).alloc (.cells #[.slice none 0 0, .slice none 0 0, .int .i64 0, .int .i64 0] 27) := ⟨_, rfl⟩
  have BW : Hid (Below w.heap.size w W) := by show Below _ _ _; rw [hW]; exact (((Below.refl _ _).alloc (Nat.le_refl _) _).alloc (by simp) _).alloc (by simp; omega) _
  have HSW : Hid (W.heap.size = w.heap.size + 3) := by show _ = _; rw [hW]; simp
  have g0 : W.heap[w.heap.size]? = some (.cells #[.slice ar s.reads.length cr, .slice ap s.puts.length cp, .int .i64 v, .int .i64 0] 27 (0, 0)) := by
    rw [hW, heap_old _ _ _ (by simp; omega), heap_old _ _ _ (by simp)]; exact heap_new _ _
  have g1 : W.heap[w.heap.size + 1]? = some (.cells #[.int .i64 kd, .int .i64 pa, .int .i64 pb, .int .i64 pn] 156 (0, 0)) := by
    rw [hW, heap_old _ _ _ (by simp)]; exact heap_new2 _ _ _
  have g2 : W.heap[w.heap.size + 1 + 1]? = some (.cells #[.slice none 0 0, .slice none 0 0, .int .i64 0, .int .i64 0] 27 (0, 0)) := by
    rw [hW]
    have := heap_new ((w.alloc (.cells #[.slice ar s.reads.length cr, .slice ap s.puts.length cp, .int .i64 v, .int .i64 0] 27)).alloc (.cells #[.int .i64 kd, .int .i64 pa, .int .i64 pb, .int .i64 pn] 156)) (.cells #[.slice none 0 0, .slice none 0 0, .int .i64 0, .int .i64 0] 27)
    rw [size_new, size_new] at this
    exact this
  have MW : Hid (StepMem w.heap.size W (.slice ar s.reads.length cr) (.slice ap s.puts.length cp) v 0) :=
    ⟨(cell_heap g0 0).trans rfl, (cell_heap g0 1).trans rfl, (cell_heap g0 2).trans rfl, (cell_heap g0 3).trans rfl, fun o => frozen_heap g0 o, (cell_heap g2 0).trans rfl, (cell_heap g2 1).trans rfl, (cell_heap g2 2).trans rfl, (cell_heap g2 3).trans rfl, fun o => frozen_heap g2 o, by have := HSW.out; omega⟩
  have i0 : W.cell? ⟨w.heap.size + 1, 0, none⟩ = some (.int .i64 kd) := (cell_heap g1 0).trans rfl
  have i1 : W.cell? ⟨w.heap.size + 1, 1, none⟩ = some (.int .i64 pa) := (cell_heap g1 1).trans rfl
  have i2 : W.cell? ⟨w.heap.size + 1, 2, none⟩ = some (.int .i64 pb) := (cell_heap g1 2).trans rfl
  have i3 : W.cell? ⟨w.heap.size + 1, 3, none⟩ = some (.int .i64 pn) := (cell_heap g1 3).trans rfl
  have GI : Hid (W.heap[w.heap.size + 1]? = some (.cells #[.int .i64 kd, .int .i64 pa, .int .i64 pb, .int .i64 pn] 156 (0, 0))) := g1
  have HW : Hid (W = _) := hW
  clear hW g0 g1 g2
  have hNW : w.heap.size + 1 + 1 < W.heap.size := by have := HSW.out; omega
  have HHW : Hid (Held B rg W rv pv s) := HH.out.turned (Turned.ofBelow (L := []) BW.out) (by simp) (by simp) (by simp)
  have lR : Hid (∀ g, rv.ownBlock = some g → B ≤ g ∧ g < w.heap.size) := fun g hg => World.ownsRow.lt HH.out.reads g hg
  have lP : Hid (∀ g, pv.ownBlock = some g → B ≤ g ∧ g < w.heap.size) := fun g hg => World.ownsRow.lt HH.out.puts g hg
  have KW : Hid (Kp B rg w W) := (Turned.ofBelow (L := []) BW.out).kp hB (by simp)
  -- from where the run's own cells and what it will say alone turn
  have TAIL : Hid (∀ (w1 W' : World) (rv' pv' : Value) (s' : RunSt), Held B rg w1 rv' pv' s' → Kp B rg w w1 → (∀ g, rv'.ownBlock = some g → g ≠ w.heap.size ∧ g ≠ w.heap.size + 1 + 1) → (∀ g, pv'.ownBlock = some g → g ≠ w.heap.size ∧ g ≠ w.heap.size + 1 + 1) → Turned [w.heap.size, w.heap.size + 1 + 1] w1 W' → Held B rg W' rv' pv' s' ∧ Kp B rg w W') := by
    intro w1 W' rv' pv' s' h1 h2 h3 h4 h5
    refine ⟨h1.turned h5 (by simp; omega) (fun g e => by have := h3 g e; simp; omega) (fun g e => by have := h4 g e; simp; omega), h2.trans (h5.kp (Nat.le_trans hB h2.size) (fun x hx => ?_))⟩
    simp at hx
    omega
  have NR : Hid (∀ g, rv.ownBlock = some g → g ≠ w.heap.size ∧ g ≠ w.heap.size + 1 + 1) := fun g e => by have := lR.out g e; omega
  have NP : Hid (∀ g, pv.ownBlock = some g → g ≠ w.heap.size ∧ g ≠ w.heap.size + 1 + 1) := fun g e => by have := lP.out g e; omega
  obtain ⟨c0, c1, c2, c3, fN, y0, y1, y2, y3, fY, _⟩ := MW.out
  rw [HRV.out, HPV.out, HC.out]
  rcases h6 with rfl | rfl | rfl | rfl
  · -- a number
    have ok := HOK.out
    rw [insOk_3] at ok
    simp only [Bool.and_eq_true] at ok
    obtain ⟨na, hna, rfl⟩ := regOk_nat ok.1.1
    clear ok
    have rga := HHW.out.regs.2 na (by rw [HHW.out.four]; exact hna)
    rw [Nat.zero_add] at rga
    have fa := HHW.out.free na
    have hai : (na : Int) < 4 := by omega
    have rn : ¬ rg = w.heap.size := by omega
    have rn1 : ¬ rg = w.heap.size + 1 := by omega
    have ES : Hid (stepR bs s (3, (na : Int), pb, pn) = setReg s na pn) := by show _ = _; simp [stepR]
    go_enter Try.func142, Try.ntmps142
    go_upto_region 1 with fail
    rw [← HW.out]
    go_wp2_with fail
    refine (l1Num pn _).mono ?_
    rintro e w1 ⟨rfl, hw⟩
    have T1 : Turned [rg] W w1 := by rw [hw]; exact (Turned.refl _ _).set (by simp) _
    have H1 : Hid (Held B rg w1 rv pv (setReg s na pn)) := by show Held _ _ _ _ _ _; rw [hw]; exact HHW.out.setR hrg na hna pn
    have K1 : Hid (Kp B rg w w1) := KW.out.trans (T1.kp (by omega) (by simp))
    obtain ⟨c0', c1', c2', c3', fN', y0', y1', y2', y3', fY', _⟩ := MW.out.turned T1 (by simp; omega) (by simp; omega)
    clear hw T1 c0 c1 c2 c3 fN y0 y1 y2 y3 fY
    cases hk : numOk pn with
    | true =>
      have EC : Hid ((setReg s na pn).code = 0) := by show _ = _; simp [setReg, hk, HC.out]
      go_wp2
      refine bodyPost_ret (v := .agg #[.slice ar s.reads.length cr, .slice ap s.puts.length cp, .int .i64 v, .int .i64 0]) (by simp [results, Try.results142, go_sem, y0', y1', y2', y3']) rfl ⟨rv, pv, by rw [HRV.out, HPV.out, ES.out, EC.out], ?_⟩
      rw [ES.out]
      refine TAIL.out w1 _ rv pv _ H1.out K1.out NR.out NP.out ?_
      repeat (first | exact Turned.refl _ _ | refine Turned.set ?_ (by simp) _)
    | false =>
      have EC : Hid ((setReg s na pn).code = 2) := by show _ = _; simp [setReg, hk]
      go_wp2
      refine bodyPost_ret (v := .agg #[.slice ar s.reads.length cr, .slice ap s.puts.length cp, .int .i64 v, .int .i64 2]) (by simp [results, Try.results142, go_sem, y0', y1', y2', y3']) rfl ⟨rv, pv, by rw [HRV.out, HPV.out, ES.out, EC.out], ?_⟩
      rw [ES.out]
      refine TAIL.out w1 _ rv pv _ H1.out K1.out NR.out NP.out ?_
      repeat (first | exact Turned.refl _ _ | refine Turned.set ?_ (by simp) _)
  · -- the end
    have ok := HOK.out
    rw [insOk_7] at ok
    simp only [Bool.and_eq_true, beq_iff_eq] at ok
    obtain ⟨⟨rfl, rfl⟩, rfl⟩ := ok
    have rga := HHW.out.regs.2 0 (by rw [HHW.out.four]; omega)
    rw [Nat.zero_add] at rga
    have EN : Hid (numOk (s.regs.getD 0 0) = true) := HN.out 0 (by omega)
    generalize s.regs.getD 0 0 = x at rga EN
    have rn : ¬ rg = w.heap.size := by omega
    have rn' : ¬ w.heap.size = rg := by omega
    have ES : Hid (stepR bs s (7, 0, 0, 0) = { s with code := 1 }) := by show _ = _; simp [stepR]
    go_enter Try.func142, Try.ntmps142
    go_upto_region 1 with fail
    rw [← HW.out]
    go_wp2_with fail
    refine (l1Num x _).mono ?_
    rintro e w1 ⟨rfl, hw⟩
    rw [hw, EN.out]
    clear hw
    go_wp2
    refine bodyPost_ret (v := .agg #[.slice ar s.reads.length cr, .slice ap s.puts.length cp, .int .i64 v, .int .i64 1]) (by simp [results, Try.results142, go_sem, y0, y1, y2, y3]) rfl ⟨rv, pv, by rw [HRV.out, HPV.out, ES.out], ?_⟩
    rw [ES.out]
    refine TAIL.out W _ rv pv _ (HHW.out.code 1) KW.out NR.out NP.out ?_
    repeat (first | exact Turned.refl _ _ | refine Turned.set ?_ (by simp) _)
  · -- a sum
    have ok := HOK.out
    rw [insOk_4] at ok
    simp only [Bool.and_eq_true] at ok
    obtain ⟨na, hna, rfl⟩ := regOk_nat ok.1.1
    obtain ⟨nb, hnb, rfl⟩ := regOk_nat ok.1.2
    clear ok
    have hai : (na : Int) < 4 := by omega
    have hbi : (nb : Int) < 4 := by omega
    have rga := HHW.out.regs.2 na (by rw [HHW.out.four]; exact hna)
    have rgb := HHW.out.regs.2 nb (by rw [HHW.out.four]; exact hnb)
    rw [Nat.zero_add] at rga rgb
    have fa := HHW.out.free na
    have ba := HN.out na hna
    have bb := HN.out nb hnb
    have ES : Hid (stepR bs s (4, (na : Int), (nb : Int), pn) = setReg s na (s.regs.getD na 0 + s.regs.getD nb 0)) := by show _ = _; simp [stepR]
    generalize s.regs.getD na 0 = x at rga ba ES
    generalize s.regs.getD nb 0 = y at rgb bb ES
    simp only [numOk, Bool.and_eq_true, decide_eq_true_eq] at ba bb
    obtain ⟨ba0, ba1⟩ := ba
    obtain ⟨bb0, bb1⟩ := bb
    have wr : IntKind.i64.wrap (x + y) = x + y := by rw [IntKind.wrap_i64]; omega
    have rn : ¬ rg = w.heap.size := by omega
    have rn1 : ¬ rg = w.heap.size + 1 := by omega
    have rn' : ¬ w.heap.size + 1 = rg := by omega
    go_enter Try.func142, Try.ntmps142
    go_upto_region 1 with fail
    rw [← HW.out]
    go_upto_region 11 with fail
    refine region_still_tail 15 (by kernel_rfl) (by kernel_rfl) ?_
    simp only [List.take_succ_cons, List.take_zero, List.drop_succ_cons, List.drop_zero]
    iterate 15 still_step
    refine wpStill_nil ?_
    go_wp2_with fail
    refine (l1Num (x + y) _).mono ?_
    rintro e w1 ⟨rfl, hw⟩
    have T1 : Turned [rg] W w1 := by rw [hw]; exact (Turned.refl _ _).drew.set (by simp) _
    have H1 : Hid (Held B rg w1 rv pv (setReg s na (x + y))) := by show Held _ _ _ _ _ _; rw [hw]; exact (HHW.out.turned (L := []) (Turned.refl _ _).drew (by simp) (by simp) (by simp)).setR hrg na hna _
    have K1 : Hid (Kp B rg w w1) := KW.out.trans (T1.kp (by omega) (by simp))
    obtain ⟨c0', c1', c2', c3', fN', y0', y1', y2', y3', fY', _⟩ := MW.out.turned T1 (by simp; omega) (by simp; omega)
    clear hw T1 c0 c1 c2 c3 fN y0 y1 y2 y3 fY
    cases hk : numOk (x + y) with
    | true =>
      have EC : Hid ((setReg s na (x + y)).code = 0) := by show _ = _; simp [setReg, hk, HC.out]
      go_wp2
      refine bodyPost_ret (v := .agg #[.slice ar s.reads.length cr, .slice ap s.puts.length cp, .int .i64 v, .int .i64 0]) (by simp [results, Try.results142, go_sem, y0', y1', y2', y3']) rfl ⟨rv, pv, by rw [HRV.out, HPV.out, ES.out, EC.out], ?_⟩
      rw [ES.out]
      refine TAIL.out w1 _ rv pv _ H1.out K1.out NR.out NP.out ?_
      repeat (first | exact Turned.refl _ _ | refine Turned.set ?_ (by simp) _)
    | false =>
      have EC : Hid ((setReg s na (x + y)).code = 2) := by show _ = _; simp [setReg, hk]
      go_wp2
      refine bodyPost_ret (v := .agg #[.slice ar s.reads.length cr, .slice ap s.puts.length cp, .int .i64 v, .int .i64 2]) (by simp [results, Try.results142, go_sem, y0', y1', y2', y3']) rfl ⟨rv, pv, by rw [HRV.out, HPV.out, ES.out, EC.out], ?_⟩
      rw [ES.out]
      refine TAIL.out w1 _ rv pv _ H1.out K1.out NR.out NP.out ?_
      repeat (first | exact Turned.refl _ _ | refine Turned.set ?_ (by simp) _)
  · -- a difference
    have ok := HOK.out
    rw [insOk_5] at ok
    simp only [Bool.and_eq_true] at ok
    obtain ⟨na, hna, rfl⟩ := regOk_nat ok.1.1
    obtain ⟨nb, hnb, rfl⟩ := regOk_nat ok.1.2
    clear ok
    have hai : (na : Int) < 4 := by omega
    have hbi : (nb : Int) < 4 := by omega
    have rga := HHW.out.regs.2 na (by rw [HHW.out.four]; exact hna)
    have rgb := HHW.out.regs.2 nb (by rw [HHW.out.four]; exact hnb)
    rw [Nat.zero_add] at rga rgb
    have fa := HHW.out.free na
    have ba := HN.out na hna
    have bb := HN.out nb hnb
    have ES : Hid (stepR bs s (5, (na : Int), (nb : Int), pn) = setReg s na (s.regs.getD na 0 - s.regs.getD nb 0)) := by show _ = _; simp [stepR]
    generalize s.regs.getD na 0 = x at rga ba ES
    generalize s.regs.getD nb 0 = y at rgb bb ES
    simp only [numOk, Bool.and_eq_true, decide_eq_true_eq] at ba bb
    obtain ⟨ba0, ba1⟩ := ba
    obtain ⟨bb0, bb1⟩ := bb
    have wr : IntKind.i64.wrap (x - y) = x - y := by rw [IntKind.wrap_i64]; omega
    have rn : ¬ rg = w.heap.size := by omega
    have rn1 : ¬ rg = w.heap.size + 1 := by omega
    have rn' : ¬ w.heap.size + 1 = rg := by omega
    go_enter Try.func142, Try.ntmps142
    go_upto_region 1 with fail
    rw [← HW.out]
    go_upto_region 13 with fail
    refine region_still_tail 15 (by kernel_rfl) (by kernel_rfl) ?_
    simp only [List.take_succ_cons, List.take_zero, List.drop_succ_cons, List.drop_zero]
    iterate 15 still_step
    refine wpStill_nil ?_
    go_wp2_with fail
    refine (l1Num (x - y) _).mono ?_
    rintro e w1 ⟨rfl, hw⟩
    have T1 : Turned [rg] W w1 := by rw [hw]; exact (Turned.refl _ _).drew.set (by simp) _
    have H1 : Hid (Held B rg w1 rv pv (setReg s na (x - y))) := by show Held _ _ _ _ _ _; rw [hw]; exact (HHW.out.turned (L := []) (Turned.refl _ _).drew (by simp) (by simp) (by simp)).setR hrg na hna _
    have K1 : Hid (Kp B rg w w1) := KW.out.trans (T1.kp (by omega) (by simp))
    obtain ⟨c0', c1', c2', c3', fN', y0', y1', y2', y3', fY', _⟩ := MW.out.turned T1 (by simp; omega) (by simp; omega)
    clear hw T1 c0 c1 c2 c3 fN y0 y1 y2 y3 fY
    cases hk : numOk (x - y) with
    | true =>
      have EC : Hid ((setReg s na (x - y)).code = 0) := by show _ = _; simp [setReg, hk, HC.out]
      go_wp2
      refine bodyPost_ret (v := .agg #[.slice ar s.reads.length cr, .slice ap s.puts.length cp, .int .i64 v, .int .i64 0]) (by simp [results, Try.results142, go_sem, y0', y1', y2', y3']) rfl ⟨rv, pv, by rw [HRV.out, HPV.out, ES.out, EC.out], ?_⟩
      rw [ES.out]
      refine TAIL.out w1 _ rv pv _ H1.out K1.out NR.out NP.out ?_
      repeat (first | exact Turned.refl _ _ | refine Turned.set ?_ (by simp) _)
    | false =>
      have EC : Hid ((setReg s na (x - y)).code = 2) := by show _ = _; simp [setReg, hk]
      go_wp2
      refine bodyPost_ret (v := .agg #[.slice ar s.reads.length cr, .slice ap s.puts.length cp, .int .i64 v, .int .i64 2]) (by simp [results, Try.results142, go_sem, y0', y1', y2', y3']) rfl ⟨rv, pv, by rw [HRV.out, HPV.out, ES.out, EC.out], ?_⟩
      rw [ES.out]
      refine TAIL.out w1 _ rv pv _ H1.out K1.out NR.out NP.out ?_
      repeat (first | exact Turned.refl _ _ | refine Turned.set ?_ (by simp) _)
end Go.Proofs.Ytgcencilgpilaaa.Own

namespace Go.Proofs.Ytgcencilgpilaaa.Own
open Go.RowKit
set_option linter.unusedVariables false
set_option linter.unusedSimpArgs false

/-- Four cells of the run laid anew. -/
theorem StepMem.put4 {N : Nat} {W : World} {rv pv rv' pv' : Value} {v c v' c' : Int} (h : StepMem N W rv pv v c) :
    StepMem N ((((W.setCell ⟨N, 0, none⟩ rv').setCell ⟨N, 1, none⟩ pv').setCell ⟨N, 2, none⟩ (.int .i64 v')).setCell ⟨N, 3, none⟩ (.int .i64 c')) rv' pv' v' c' := by
  have ne : ∀ o (u : World) (x : Value) o', (u.setCell ⟨N, o, none⟩ x).cell? ⟨N + 1 + 1, o', none⟩ = u.cell? ⟨N + 1 + 1, o', none⟩ := fun o u x o' => World.cell?_setCell_other _ _ _ _ (by intro e; injection e with e1 _ _; omega)
  refine ⟨?_, ?_, ?_, ?_, fun o => by simpa using h.f o, ?_, ?_, ?_, ?_, fun o => by simpa using h.g o, by simpa [World.setCell] using h.lt⟩
  · rw [setCell_cell_other _ _ _ _ _ (by omega), setCell_cell_other _ _ _ _ _ (by omega), setCell_cell_other _ _ _ _ _ (by omega)]
    exact setCell_cell_same _ _ _ _ _ h.c0
  · rw [setCell_cell_other _ _ _ _ _ (by omega), setCell_cell_other _ _ _ _ _ (by omega)]
    exact setCell_cell_same _ _ _ _ _ (by rw [setCell_cell_other _ _ _ _ _ (by omega)]; exact h.c1)
  · rw [setCell_cell_other _ _ _ _ _ (by omega)]
    exact setCell_cell_same _ _ _ _ _ (by rw [setCell_cell_other _ _ _ _ _ (by omega), setCell_cell_other _ _ _ _ _ (by omega)]; exact h.c2)
  · exact setCell_cell_same _ _ _ _ _ (by rw [setCell_cell_other _ _ _ _ _ (by omega), setCell_cell_other _ _ _ _ _ (by omega), setCell_cell_other _ _ _ _ _ (by omega)]; exact h.c3)
  · rw [ne, ne, ne, ne]; exact h.y0
  · rw [ne, ne, ne, ne]; exact h.y1
  · rw [ne, ne, ne, ne]; exact h.y2
  · rw [ne, ne, ne, ne]; exact h.y3

set_option maxRecDepth 100000 in
set_option maxHeartbeats 4000000 in
theorem l3StepL (la : Option Addr) (lc : Nat) (bs : List P2) (rg rc : Nat) (s : RunSt) (rv pv : Value) (p : Q4) (v : Int) (B : Nat) (w : World)
    (hb : Sl w la bs) (l4 : bs.length = 4) (hla : ∀ x, la = some x → x.block < B) (hh : Held B rg w rv pv s) (hrg : rg < B) (hB : B ≤ w.heap.size) (lx : s.reads.length ≤ 1000) (ly : s.puts.length ≤ 1000)
    (hp : insOk p = true) (h6 : p.1 = 1) (hc : s.code = 0) (hn : ∀ i, i < 4 → numOk (s.regs.getD i 0) = true) :
    Calls Try.prog 142 #[.slice la bs.length lc, .agg #[rv, pv, .int .i64 v, .int .i64 s.code], .slice (some ⟨rg, 0, none⟩) 4 rc, .agg #[.int .i64 p.1, .int .i64 p.2.1, .int .i64 p.2.2.1, .int .i64 p.2.2.2]] w fun e w' => StepPost bs s p B rg v w e w' := by
  obtain ⟨kd, pa, pb, pn⟩ := p
  dsimp only at h6 ⊢
  obtain ⟨ar, cr, hrv, slr, hcr, hmr, hbr⟩ := hh.reads.open
  obtain ⟨ap, cp, hpv, slp, hcp, hmp, hbp⟩ := hh.puts.open
  have HH : Hid (Held B rg w rv pv s) := hh
  have HRV : Hid (rv = .slice ar s.reads.length cr) := hrv
  have HPV : Hid (pv = .slice ap s.puts.length cp) := hpv
  have SB : Hid (Sl w la bs) := hb
  have HLA : Hid (∀ x, la = some x → x.block < B) := hla
  have HN : Hid (∀ i, i < 4 → numOk (s.regs.getD i 0) = true) := hn
  have HC : Hid (s.code = 0) := hc
  have HOK : Hid (insOk (kd, pa, pb, pn) = true) := hp
  have HL4 : Hid (bs.length = 4) := l4
  clear l4 hh slr slp hb hbr hbp hcr hcp hmr hmp hla hn hp
  obtain ⟨W, hW⟩ : ∃ W, W = ((w.alloc (.cells #[.slice ar s.reads.length cr, .slice ap s.puts.length cp, .int .i64 v, .int .i64 0] 27)).alloc (.cells #[.int .i64 kd, .int .i64 pa, .int .i64 pb, .int .i64 pn] 156)).alloc (.cells #[.slice none 0 0, .slice none 0 0, .int .i64 0, .int .i64 0] 27) := ⟨_, rfl⟩
  have BW : Hid (Below w.heap.size w W) := by show Below _ _ _; rw [hW]; exact (((Below.refl _ _).alloc (Nat.le_refl _) _).alloc (by simp) _).alloc (by simp; omega) _
  have HSW : Hid (W.heap.size = w.heap.size + 3) := by show _ = _; rw [hW]; simp
  have g0 : W.heap[w.heap.size]? = some (.cells #[.slice ar s.reads.length cr, .slice ap s.puts.length cp, .int .i64 v, .int .i64 0] 27 (0, 0)) := by
    rw [hW, heap_old _ _ _ (by simp; omega), heap_old _ _ _ (by simp)]; exact heap_new _ _
  have g1 : W.heap[w.heap.size + 1]? = some (.cells #[.int .i64 kd, .int .i64 pa, .int .i64 pb, .int .i64 pn] 156 (0, 0)) := by
    rw [hW, heap_old _ _ _ (by simp)]; exact heap_new2 _ _ _
  have g2 : W.heap[w.heap.size + 1 + 1]? = some (.cells #[.slice none 0 0, .slice none 0 0, .int .i64 0, .int .i64 0] 27 (0, 0)) := by
    rw [hW]
    have := heap_new ((w.alloc (.cells #[.slice ar s.reads.length cr, .slice ap s.puts.length cp, .int .i64 v, .int .i64 0] 27)).alloc (.cells #[.int .i64 kd, .int .i64 pa, .int .i64 pb, .int .i64 pn] 156)) (.cells #[.slice none 0 0, .slice none 0 0, .int .i64 0, .int .i64 0] 27)
    rw [size_new, size_new] at this
    exact this
  have MW : Hid (StepMem w.heap.size W (.slice ar s.reads.length cr) (.slice ap s.puts.length cp) v 0) :=
    ⟨(cell_heap g0 0).trans rfl, (cell_heap g0 1).trans rfl, (cell_heap g0 2).trans rfl, (cell_heap g0 3).trans rfl, fun o => frozen_heap g0 o, (cell_heap g2 0).trans rfl, (cell_heap g2 1).trans rfl, (cell_heap g2 2).trans rfl, (cell_heap g2 3).trans rfl, fun o => frozen_heap g2 o, by have := HSW.out; omega⟩
  have i0 : W.cell? ⟨w.heap.size + 1, 0, none⟩ = some (.int .i64 kd) := (cell_heap g1 0).trans rfl
  have i1 : W.cell? ⟨w.heap.size + 1, 1, none⟩ = some (.int .i64 pa) := (cell_heap g1 1).trans rfl
  have i2 : W.cell? ⟨w.heap.size + 1, 2, none⟩ = some (.int .i64 pb) := (cell_heap g1 2).trans rfl
  have i3 : W.cell? ⟨w.heap.size + 1, 3, none⟩ = some (.int .i64 pn) := (cell_heap g1 3).trans rfl
  have GI : Hid (W.heap[w.heap.size + 1]? = some (.cells #[.int .i64 kd, .int .i64 pa, .int .i64 pb, .int .i64 pn] 156 (0, 0))) := g1
  have HW : Hid (W = _) := hW
  clear hW g0 g1 g2
  have hNW : w.heap.size + 1 + 1 < W.heap.size := by have := HSW.out; omega
  have HHW : Hid (Held B rg W rv pv s) := HH.out.turned (Turned.ofBelow (L := []) BW.out) (by simp) (by simp) (by simp)
  have lR : Hid (∀ g, rv.ownBlock = some g → B ≤ g ∧ g < w.heap.size) := fun g hg => World.ownsRow.lt HH.out.reads g hg
  have lP : Hid (∀ g, pv.ownBlock = some g → B ≤ g ∧ g < w.heap.size) := fun g hg => World.ownsRow.lt HH.out.puts g hg
  have KW : Hid (Kp B rg w W) := (Turned.ofBelow (L := []) BW.out).kp hB (by simp)
  -- from where the run's own cells and what it will say alone turn
  have TAIL : Hid (∀ (w1 W' : World) (rv' pv' : Value) (s' : RunSt), Held B rg w1 rv' pv' s' → Kp B rg w w1 → (∀ g, rv'.ownBlock = some g → g ≠ w.heap.size ∧ g ≠ w.heap.size + 1 + 1) → (∀ g, pv'.ownBlock = some g → g ≠ w.heap.size ∧ g ≠ w.heap.size + 1 + 1) → Turned [w.heap.size, w.heap.size + 1 + 1] w1 W' → Held B rg W' rv' pv' s' ∧ Kp B rg w W') := by
    intro w1 W' rv' pv' s' h1 h2 h3 h4 h5
    refine ⟨h1.turned h5 (by simp; omega) (fun g e => by have := h3 g e; simp; omega) (fun g e => by have := h4 g e; simp; omega), h2.trans (h5.kp (Nat.le_trans hB h2.size) (fun x hx => ?_))⟩
    simp at hx
    omega
  have NR : Hid (∀ g, rv.ownBlock = some g → g ≠ w.heap.size ∧ g ≠ w.heap.size + 1 + 1) := fun g e => by have := lR.out g e; omega
  have NP : Hid (∀ g, pv.ownBlock = some g → g ≠ w.heap.size ∧ g ≠ w.heap.size + 1 + 1) := fun g e => by have := lP.out g e; omega
  obtain ⟨c0, c1, c2, c3, fN, y0, y1, y2, y3, fY, _⟩ := MW.out
  rw [HRV.out, HPV.out, HC.out]
  subst h6
  · -- a look
    have ok := HOK.out
    rw [insOk_1] at ok
    simp only [Bool.and_eq_true] at ok
    obtain ⟨na, hna, rfl⟩ := regOk_nat ok.1.1
    obtain ⟨nb, hnb, rfl⟩ := regOk_nat ok.1.2
    clear ok
    have hai : (na : Int) < 4 := by omega
    have rn : ¬ rg = w.heap.size := by omega
    have rn' : ¬ w.heap.size = rg := by omega
    have rm : ¬ rg = w.heap.size + 1 := by omega
    have rm' : ¬ w.heap.size + 1 = rg := by omega
    have ES : Hid (stepR bs s (1, (na : Int), (nb : Int), pn) = setReg { s with reads := lookR bs s.reads s.puts nb } na (inBox bs s.puts nb)) := by show _ = _; simp [stepR]
    have LK : Hid (Calls Try.prog 159 #[.slice la bs.length lc, .agg #[.slice ar s.reads.length cr, .slice ap s.puts.length cp, .int .i64 v, .int .i64 0], .int .i64 nb] W fun e w' => LookPost bs s.reads s.puts nb B rv pv v 0 W e w') := by
      have h := l3Look la lc bs nb rv pv s.reads s.puts v 0 B W (SB.out.below BW.out) (by rw [HL4.out]; exact hnb) (by rw [HL4.out]; omega) (fun x e e' => by have h1 := HLA.out x e; have h2 := (lR.out _ e').1; omega) HHW.out.reads HHW.out.puts HHW.out.apart (by omega) lx ly
      rw [HRV.out, HPV.out] at h ⊢
      exact h
    clear c0 c1 c2 c3 fN y0 y1 y2 y3 fY
    obtain ⟨c0, c1, c2, c3, fN, y0, y1, y2, y3, fY, _⟩ := MW.out
    go_enter Try.func142, Try.ntmps142
    go_upto_region 1 with fail
    rw [← HW.out]
    go_wp2_with fail
    refine Calls.mono LK.out ?_
    rintro e w2 ⟨rv2, rfl, o1, o2, ap2, gr, hnew⟩
    obtain ⟨a2, cc2, hrv2, _, _, _, _⟩ := o1.open
    have T2 : Turned rv.ownBlock.toList W w2 := Turned.ofGrown gr (fun g e => by simp [e])
    have nmem : ∀ x, w.heap.size ≤ x → x ∉ rv.ownBlock.toList := fun x hx e => by
      rw [Option.mem_toList] at e
      have := lR.out x e
      omega
    have nrg : rg ∉ rv.ownBlock.toList := fun e => by
      rw [Option.mem_toList] at e
      have := lR.out rg e
      omega
    have hs2 : W.heap.size ≤ w2.heap.size := gr.size
    have H2 : Held B rg w2 rv2 pv { s with reads := lookR bs s.reads s.puts nb } := ⟨HHW.out.regs.turned T2 nrg, HHW.out.four, fun o => by rw [World.frozen?_of_block (w := W) (a := ⟨rg, o, none⟩) (T2.block rg HHW.out.regs.1 nrg)]; exact HHW.out.free o, o1, o2, ap2⟩
    obtain ⟨X, hX⟩ : ∃ X, X = w2.alloc (.cells #[.slice a2 (lookR bs s.reads s.puts nb).length cc2, .slice ap s.puts.length cp, .int .i64 v, .int .i64 0] 27) := ⟨_, rfl⟩
    have T3 : Turned [] w2 X := by rw [hX]; exact (Turned.refl _ _).alloc _
    have hsX : X.heap.size = w2.heap.size + 1 := by rw [hX]; simp
    have gX : X.heap[w2.heap.size]? = some (.cells #[.slice a2 (lookR bs s.reads s.puts nb).length cc2, .slice ap s.puts.length cp, .int .i64 v, .int .i64 0] 27 (0, 0)) := by rw [hX]; exact heap_new _ _
    have x0 : X.cell? ⟨w2.heap.size, 0, none⟩ = some (.slice a2 (lookR bs s.reads s.puts nb).length cc2) := (cell_heap gX 0).trans rfl
    have x1 : X.cell? ⟨w2.heap.size, 1, none⟩ = some (.slice ap s.puts.length cp) := (cell_heap gX 1).trans rfl
    have x2 : X.cell? ⟨w2.heap.size, 2, none⟩ = some (.int .i64 v) := (cell_heap gX 2).trans rfl
    have x3 : X.cell? ⟨w2.heap.size, 3, none⟩ = some (.int .i64 0) := (cell_heap gX 3).trans rfl
    have M3 : Hid (StepMem w.heap.size X (.slice ar s.reads.length cr) (.slice ap s.puts.length cp) v 0) := (MW.out.turned T2 (nmem _ (Nat.le_refl _)) (nmem _ (by omega))).turned T3 (by simp) (by simp)
    have H3 : Hid (Held B rg X rv2 pv { s with reads := lookR bs s.reads s.puts nb }) := H2.turned T3 (by simp) (by simp) (by simp)
    have K3 : Hid (Kp B rg w X) := KW.out.trans ((T2.kp (by omega) (fun x e => by rw [Option.mem_toList] at e; exact .inl (lR.out x e).1)).trans (T3.kp (by omega) (by simp)))
    have tX : ∀ o, X.cell? ⟨w.heap.size + 1, o, none⟩ = W.cell? ⟨w.heap.size + 1, o, none⟩ := fun o => (World.cell?_of_block (w := w2) (a := ⟨w.heap.size + 1, o, none⟩) (T3.block _ (by show w.heap.size + 1 < _; omega) (by simp))).trans (World.cell?_of_block (w := W) (a := ⟨w.heap.size + 1, o, none⟩) (T2.block _ (by show w.heap.size + 1 < _; omega) (nmem (w.heap.size + 1) (by omega))))
    have j1 : X.cell? ⟨w.heap.size + 1, 1, none⟩ = some (.int .i64 na) := (tX 1).trans i1
    have j0 : X.cell? ⟨w.heap.size + 1, 0, none⟩ = some (.int .i64 1) := (tX 0).trans i0
    have rga := H3.out.regs.2 na (by rw [H3.out.four]; exact hna)
    rw [Nat.zero_add] at rga
    have fa := H3.out.free na
    have NR2 : Hid (∀ g, rv2.ownBlock = some g → g ≠ w.heap.size ∧ g ≠ w.heap.size + 1 + 1) := fun g e => by
      have h2 := World.ownsRow.lt o1 g e
      rcases hnew g e with h | h
      · have := lR.out g h; omega
      · omega
    have HRV2 : Hid (rv2 = .slice a2 (lookR bs s.reads s.puts nb).length cc2) := hrv2
    have hN2 : ¬ w.heap.size = w2.heap.size := by omega
    have hN2' : ¬ w2.heap.size = w.heap.size := by omega
    have hN3 : ¬ w.heap.size + 1 = w2.heap.size := by omega
    have hN3' : ¬ w2.heap.size = w.heap.size + 1 := by omega
    have rg2 : ¬ rg = w2.heap.size := by omega
    have rg2' : ¬ w2.heap.size = rg := by omega
    obtain ⟨d0, d1, d2, d3, fM, e0, e1, e2, e3, fZ, _⟩ := M3.out
    have HX : Hid (X = _) := hX
    rw [hrv2, HPV.out]
    clear o1 o2 ap2 gr hnew hrv2 T2 T3 H2 nmem c0 c1 c2 c3 fN y0 y1 y2 y3 fY hX gX tX i0 i1 i2 i3
    go_upto_region 4 with fail
    rw [← HX.out]
    go_wp2_with fail
    refine (l1Num (inBox bs s.puts nb) _).mono ?_
    rintro e w1 ⟨rfl, hw⟩
    have TR : Turned [rg] X (X.setCell ⟨rg, na, none⟩ (.int .i64 (inBox bs s.puts nb))) := (Turned.refl _ _).set (by simp) _
    have HR1 := H3.out.setR hrg na hna (inBox bs s.puts nb)
    have MR1 := M3.out.turned TR (by simp; omega) (by simp; omega)
    have KR1 := K3.out.trans (TR.kp (B := B) (rg := rg) (by have := K3.out.size; omega) (by simp))
    obtain ⟨Y, hY⟩ : ∃ Y, Y = X.setCell ⟨rg, na, none⟩ (.int .i64 (inBox bs s.puts nb)) := ⟨_, rfl⟩
    rw [← hY] at HR1 MR1 KR1 hw
    have T1 : Turned [w.heap.size] Y w1 := by rw [hw]; exact ((((Turned.refl _ _).set (by simp) _).set (by simp) _).set (by simp) _).set (by simp) _
    have M1 : StepMem w.heap.size w1 (.slice a2 (lookR bs s.reads s.puts nb).length cc2) (.slice ap s.puts.length cp) v 0 := by rw [hw]; exact MR1.put4
    have H1 : Hid (Held B rg w1 rv2 pv (setReg { s with reads := lookR bs s.reads s.puts nb } na (inBox bs s.puts nb))) := HR1.turned T1 (by simp; omega) (fun g e => by have := NR2.out g e; simp; omega) (fun g e => by have := NP.out g e; simp; omega)
    have K1 : Hid (Kp B rg w w1) := KR1.trans (T1.kp (by have := KR1.size; omega) (by simp; omega))
    obtain ⟨c0', c1', c2', c3', fN', y0', y1', y2', y3', fY', _⟩ := M1
    clear hw T1 TR HR1 MR1 KR1 hY Y d0 d1 d2 d3 fM e0 e1 e2 e3 fZ x0 x1 x2 x3 rga fa
    cases hk : numOk (inBox bs s.puts nb) with
    | true =>
      have EC : Hid ((setReg { s with reads := lookR bs s.reads s.puts nb } na (inBox bs s.puts nb)).code = 0) := by show _ = _; simp [setReg, hk, HC.out]
      go_wp2
      refine bodyPost_ret (v := .agg #[.slice a2 (lookR bs s.reads s.puts nb).length cc2, .slice ap s.puts.length cp, .int .i64 v, .int .i64 0]) (by simp [results, Try.results142, go_sem, y0', y1', y2', y3']) rfl ⟨rv2, pv, by rw [HRV2.out, HPV.out, ES.out, EC.out], ?_⟩
      rw [ES.out]
      refine TAIL.out w1 _ rv2 pv _ H1.out K1.out NR2.out NP.out ?_
      repeat (first | exact Turned.refl _ _ | refine Turned.set ?_ (by simp) _)
    | false =>
      have EC : Hid ((setReg { s with reads := lookR bs s.reads s.puts nb } na (inBox bs s.puts nb)).code = 2) := by show _ = _; simp [setReg, hk]
      go_wp2
      refine bodyPost_ret (v := .agg #[.slice a2 (lookR bs s.reads s.puts nb).length cc2, .slice ap s.puts.length cp, .int .i64 v, .int .i64 2]) (by simp [results, Try.results142, go_sem, y0', y1', y2', y3']) rfl ⟨rv2, pv, by rw [HRV2.out, HPV.out, ES.out, EC.out], ?_⟩
      rw [ES.out]
      refine TAIL.out w1 _ rv2 pv _ H1.out K1.out NR2.out NP.out ?_
      repeat (first | exact Turned.refl _ _ | refine Turned.set ?_ (by simp) _)
end Go.Proofs.Ytgcencilgpilaaa.Own

namespace Go.Proofs.Ytgcencilgpilaaa.Own
open Go.RowKit
set_option linter.unusedVariables false
set_option linter.unusedSimpArgs false

set_option maxRecDepth 100000 in
set_option maxHeartbeats 4000000 in
theorem l3StepP (la : Option Addr) (lc : Nat) (bs : List P2) (rg rc : Nat) (s : RunSt) (rv pv : Value) (p : Q4) (v : Int) (B : Nat) (w : World)
    (hb : Sl w la bs) (l4 : bs.length = 4) (hla : ∀ x, la = some x → x.block < B) (hh : Held B rg w rv pv s) (hrg : rg < B) (hB : B ≤ w.heap.size) (lx : s.reads.length ≤ 1000) (ly : s.puts.length ≤ 1000)
    (hp : insOk p = true) (h6 : p.1 = 2) (hc : s.code = 0) (hn : ∀ i, i < 4 → numOk (s.regs.getD i 0) = true) :
    Calls Try.prog 142 #[.slice la bs.length lc, .agg #[rv, pv, .int .i64 v, .int .i64 s.code], .slice (some ⟨rg, 0, none⟩) 4 rc, .agg #[.int .i64 p.1, .int .i64 p.2.1, .int .i64 p.2.2.1, .int .i64 p.2.2.2]] w fun e w' => StepPost bs s p B rg v w e w' := by
  obtain ⟨kd, pa, pb, pn⟩ := p
  dsimp only at h6 ⊢
  obtain ⟨ar, cr, hrv, slr, hcr, hmr, hbr⟩ := hh.reads.open
  obtain ⟨ap, cp, hpv, slp, hcp, hmp, hbp⟩ := hh.puts.open
  have HH : Hid (Held B rg w rv pv s) := hh
  have HRV : Hid (rv = .slice ar s.reads.length cr) := hrv
  have HPV : Hid (pv = .slice ap s.puts.length cp) := hpv
  have SB : Hid (Sl w la bs) := hb
  have HLA : Hid (∀ x, la = some x → x.block < B) := hla
  have HN : Hid (∀ i, i < 4 → numOk (s.regs.getD i 0) = true) := hn
  have HC : Hid (s.code = 0) := hc
  have HOK : Hid (insOk (kd, pa, pb, pn) = true) := hp
  have HL4 : Hid (bs.length = 4) := l4
  clear l4 hh slr slp hb hbr hbp hcr hcp hmr hmp hla hn hp
  obtain ⟨W, hW⟩ : ∃ W, W = ((w.alloc (.cells #[.slice ar s.reads.length cr, .slice ap s.puts.length cp, .int .i64 v, .int .i64 0] 27)).alloc (.cells #[.int .i64 kd, .int .i64 pa, .int .i64 pb, .int .i64 pn] 156)).alloc (.cells #[.slice none 0 0, .slice none 0 0, .int .i64 0, .int .i64 0] 27) := ⟨_, rfl⟩
  have BW : Hid (Below w.heap.size w W) := by show Below _ _ _; rw [hW]; exact (((Below.refl _ _).alloc (Nat.le_refl _) _).alloc (by simp) _).alloc (by simp; omega) _
  have HSW : Hid (W.heap.size = w.heap.size + 3) := by show _ = _; rw [hW]; simp
  have g0 : W.heap[w.heap.size]? = some (.cells #[.slice ar s.reads.length cr, .slice ap s.puts.length cp, .int .i64 v, .int .i64 0] 27 (0, 0)) := by
    rw [hW, heap_old _ _ _ (by simp; omega), heap_old _ _ _ (by simp)]; exact heap_new _ _
  have g1 : W.heap[w.heap.size + 1]? = some (.cells #[.int .i64 kd, .int .i64 pa, .int .i64 pb, .int .i64 pn] 156 (0, 0)) := by
    rw [hW, heap_old _ _ _ (by simp)]; exact heap_new2 _ _ _
  have g2 : W.heap[w.heap.size + 1 + 1]? = some (.cells #[.slice none 0 0, .slice none 0 0, .int .i64 0, .int .i64 0] 27 (0, 0)) := by
    rw [hW]
    have := heap_new ((w.alloc (.cells #[.slice ar s.reads.length cr, .slice ap s.puts.length cp, .int .i64 v, .int .i64 0] 27)).alloc (.cells #[.int .i64 kd, .int .i64 pa, .int .i64 pb, .int .i64 pn] 156)) (.cells #[.slice none 0 0, .slice none 0 0, .int .i64 0, .int .i64 0] 27)
    rw [size_new, size_new] at this
    exact this
  have MW : Hid (StepMem w.heap.size W (.slice ar s.reads.length cr) (.slice ap s.puts.length cp) v 0) :=
    ⟨(cell_heap g0 0).trans rfl, (cell_heap g0 1).trans rfl, (cell_heap g0 2).trans rfl, (cell_heap g0 3).trans rfl, fun o => frozen_heap g0 o, (cell_heap g2 0).trans rfl, (cell_heap g2 1).trans rfl, (cell_heap g2 2).trans rfl, (cell_heap g2 3).trans rfl, fun o => frozen_heap g2 o, by have := HSW.out; omega⟩
  have i0 : W.cell? ⟨w.heap.size + 1, 0, none⟩ = some (.int .i64 kd) := (cell_heap g1 0).trans rfl
  have i1 : W.cell? ⟨w.heap.size + 1, 1, none⟩ = some (.int .i64 pa) := (cell_heap g1 1).trans rfl
  have i2 : W.cell? ⟨w.heap.size + 1, 2, none⟩ = some (.int .i64 pb) := (cell_heap g1 2).trans rfl
  have i3 : W.cell? ⟨w.heap.size + 1, 3, none⟩ = some (.int .i64 pn) := (cell_heap g1 3).trans rfl
  have GI : Hid (W.heap[w.heap.size + 1]? = some (.cells #[.int .i64 kd, .int .i64 pa, .int .i64 pb, .int .i64 pn] 156 (0, 0))) := g1
  have HW : Hid (W = _) := hW
  clear hW g0 g1 g2
  have hNW : w.heap.size + 1 + 1 < W.heap.size := by have := HSW.out; omega
  have HHW : Hid (Held B rg W rv pv s) := HH.out.turned (Turned.ofBelow (L := []) BW.out) (by simp) (by simp) (by simp)
  have lR : Hid (∀ g, rv.ownBlock = some g → B ≤ g ∧ g < w.heap.size) := fun g hg => World.ownsRow.lt HH.out.reads g hg
  have lP : Hid (∀ g, pv.ownBlock = some g → B ≤ g ∧ g < w.heap.size) := fun g hg => World.ownsRow.lt HH.out.puts g hg
  have KW : Hid (Kp B rg w W) := (Turned.ofBelow (L := []) BW.out).kp hB (by simp)
  -- from where the run's own cells and what it will say alone turn
  have TAIL : Hid (∀ (w1 W' : World) (rv' pv' : Value) (s' : RunSt), Held B rg w1 rv' pv' s' → Kp B rg w w1 → (∀ g, rv'.ownBlock = some g → g ≠ w.heap.size ∧ g ≠ w.heap.size + 1 + 1) → (∀ g, pv'.ownBlock = some g → g ≠ w.heap.size ∧ g ≠ w.heap.size + 1 + 1) → Turned [w.heap.size, w.heap.size + 1 + 1] w1 W' → Held B rg W' rv' pv' s' ∧ Kp B rg w W') := by
    intro w1 W' rv' pv' s' h1 h2 h3 h4 h5
    refine ⟨h1.turned h5 (by simp; omega) (fun g e => by have := h3 g e; simp; omega) (fun g e => by have := h4 g e; simp; omega), h2.trans (h5.kp (Nat.le_trans hB h2.size) (fun x hx => ?_))⟩
    simp at hx
    omega
  have NR : Hid (∀ g, rv.ownBlock = some g → g ≠ w.heap.size ∧ g ≠ w.heap.size + 1 + 1) := fun g e => by have := lR.out g e; omega
  have NP : Hid (∀ g, pv.ownBlock = some g → g ≠ w.heap.size ∧ g ≠ w.heap.size + 1 + 1) := fun g e => by have := lP.out g e; omega
  obtain ⟨c0, c1, c2, c3, fN, y0, y1, y2, y3, fY, _⟩ := MW.out
  rw [HRV.out, HPV.out, HC.out]
  subst h6
  · -- a put
    have ok := HOK.out
    rw [insOk_2] at ok
    simp only [Bool.and_eq_true] at ok
    obtain ⟨na, hna, rfl⟩ := regOk_nat ok.1.1
    obtain ⟨nb, hnb, rfl⟩ := regOk_nat ok.1.2
    clear ok
    have hbi : (nb : Int) < 4 := by omega
    have rgb := HHW.out.regs.2 nb (by rw [HHW.out.four]; exact hnb)
    rw [Nat.zero_add] at rgb
    have ES : Hid (stepR bs s (2, (na : Int), (nb : Int), pn) = { s with puts := putP s.puts na (s.regs.getD nb 0) }) := by show _ = _; simp [stepR]
    generalize s.regs.getD nb 0 = x at rgb ES
    have PT : Hid (∀ u, Turned [] W u → Calls Try.prog 160 #[.agg #[.slice ar s.reads.length cr, .slice ap s.puts.length cp, .int .i64 v, .int .i64 0], .int .i64 na, .int .i64 x] u fun e w' => PutPost s.reads s.puts na x B rv pv v 0 u e w') := by
      intro u hu
      have hh := HHW.out.turned hu (by simp) (by simp) (by simp)
      have h := l3Put na x rv pv s.reads s.puts v 0 B u hh.reads hh.puts hh.apart (by have := hu.size; omega) ly
      rw [HRV.out, HPV.out] at h ⊢
      exact h
    go_enter Try.func142, Try.ntmps142
    go_upto_region 1 with fail
    rw [← HW.out]
    go_upto_region 7 with fail
    refine region_still_tail 8 (by kernel_rfl) (by kernel_rfl) ?_
    simp only [List.take_succ_cons, List.take_zero, List.drop_succ_cons, List.drop_zero]
    iterate 8 still_step
    refine wpStill_nil ?_
    go_wp2_with fail
    refine Calls.mono (PT.out _ (Turned.refl _ _).drew) ?_
    rintro e w2 ⟨pv2, rfl, o1, o2, ap2, gr, hnew⟩
    obtain ⟨a2, cc2, hpv2, _, _, _, _⟩ := o2.open
    have T2 : Turned pv.ownBlock.toList W w2 := Turned.trans (Turned.refl _ _).drew (Turned.ofGrown gr (fun g e => by simp [e]))
    have nmem : ∀ x, w.heap.size ≤ x → x ∉ pv.ownBlock.toList := fun x hx e => by
      rw [Option.mem_toList] at e
      have := lP.out x e
      omega
    have nrg : rg ∉ pv.ownBlock.toList := fun e => by
      rw [Option.mem_toList] at e
      have := lP.out rg e
      omega
    have hs2 : W.heap.size ≤ w2.heap.size := gr.size
    have H2 : Hid (Held B rg w2 rv pv2 { s with puts := putP s.puts na x }) := ⟨HHW.out.regs.turned T2 nrg, HHW.out.four, fun o => by rw [World.frozen?_of_block (w := W) (a := ⟨rg, o, none⟩) (T2.block rg HHW.out.regs.1 nrg)]; exact HHW.out.free o, o1, o2, ap2⟩
    have M2 := MW.out.turned T2 (nmem _ (Nat.le_refl _)) (nmem _ (by omega))
    have K2 : Hid (Kp B rg w w2) := KW.out.trans (T2.kp (by omega) (fun x e => by rw [Option.mem_toList] at e; exact .inl (lP.out x e).1))
    have tX : ∀ o, w2.cell? ⟨w.heap.size + 1, o, none⟩ = W.cell? ⟨w.heap.size + 1, o, none⟩ := fun o => World.cell?_of_block (w := W) (a := ⟨w.heap.size + 1, o, none⟩) (T2.block _ (by show w.heap.size + 1 < _; omega) (nmem (w.heap.size + 1) (by omega)))
    have j0 : w2.cell? ⟨w.heap.size + 1, 0, none⟩ = some (.int .i64 2) := (tX 0).trans i0
    have NP2 : Hid (∀ g, pv2.ownBlock = some g → g ≠ w.heap.size ∧ g ≠ w.heap.size + 1 + 1) := fun g e => by
      have h2 := World.ownsRow.lt o2 g e
      rcases hnew g e with h | h
      · have := lP.out g h; omega
      · have : W.heap.size ≤ g := h; omega
    have HPV2 : Hid (pv2 = .slice a2 (putP s.puts na x).length cc2) := hpv2
    obtain ⟨d0, d1, d2, d3, fM, e0, e1, e2, e3, fZ, _⟩ := M2
    rw [hpv2, HRV.out]
    clear o1 o2 ap2 gr hnew hpv2 T2 nmem c0 c1 c2 c3 fN y0 y1 y2 y3 fY tX i0 i1 i2 i3 rgb
    go_wp2
    refine bodyPost_ret (v := .agg #[.slice ar s.reads.length cr, .slice a2 (putP s.puts na x).length cc2, .int .i64 v, .int .i64 0]) (by simp [results, Try.results142, go_sem, e0, e1, e2, e3]) rfl ⟨rv, pv2, by rw [HRV.out, HPV2.out, ES.out, HC.out], ?_⟩
    rw [ES.out]
    refine TAIL.out w2 _ rv pv2 _ H2.out K2.out NR.out NP2.out ?_
    iterate 8 refine Turned.set ?_ (by simp) _
    exact Turned.refl _ _
end Go.Proofs.Ytgcencilgpilaaa.Own

namespace Go.Proofs.Ytgcencilgpilaaa.Own
open Go.RowKit
set_option linter.unusedVariables false

def loadsQ (p : Q4) (b : Int) : Bool := p.1 == 1 && p.2.2.1 == b
def putsQ (p : Q4) (b : Int) : Bool := p.1 == 2 && p.2.1 == b
/-- Of the first k boxes those that are met, ascending. -/
def boxesTo (f : Q4 → Int → Bool) (xs : List Q4) : Nat → List Int
  | 0 => []
  | k + 1 => boxesTo f xs k ++ (if xs.any (fun p => f p (k : Int)) then [(k : Int)] else [])

theorem boxesTo_len (f : Q4 → Int → Bool) (xs : List Q4) (k : Nat) : (boxesTo f xs k).length ≤ k := by
  induction k with
  | zero => simp [boxesTo]
  | succ k ih => simp only [boxesTo, List.length_append]; split <;> simp <;> omega

theorem any_take_succ {α : Type} {p : α → Bool} {xs : List α} {k : Nat} (d : α) (h : k < xs.length) : (xs.take (k + 1)).any p = ((xs.take k).any p || p (xs.getD k d)) := by
  rw [List.take_succ_eq_append_getElem h, List.any_append]
  simp only [List.any_cons, List.any_nil, Bool.or_false, List.getD_eq_getElem?_getD, List.getElem?_eq_getElem h, Option.getD_some]

theorem any_true {α : Type} {p : α → Bool} {xs : List α} {k : Nat} (d : α) (h : k < xs.length) (hp : p (xs.getD k d) = true) : xs.any p = true := by
  rw [List.any_eq_true]
  exact ⟨xs.getD k d, by simp [List.getD, h], hp⟩

/-- Rows that lie below n₀. -/
def Sl4b (n₀ : Nat) (w : World) (a : Option Addr) (xs : List Q4) : Prop := xs = [] ∨ ∃ b off, a = some ⟨b, off, none⟩ ∧ b < n₀ ∧ At4 w b off xs
theorem Sl4b.below {n₀ : Nat} {w w' : World} {a : Option Addr} {xs : List Q4} (h : Sl4b n₀ w a xs) (hb : Below n₀ w w') : Sl4b n₀ w' a xs := by
  rcases h with h | ⟨b, off, rfl, hlt, h⟩
  · exact .inl h
  · exact .inr ⟨b, off, rfl, hlt, h.belowAt hb hlt⟩
theorem Sl4b.sl {n₀ : Nat} {w : World} {a : Option Addr} {xs : List Q4} (h : Sl4b n₀ w a xs) : Sl4 w a xs := by
  rcases h with h | ⟨b, off, rfl, hlt, h⟩
  · exact .inl h
  · exact .inr ⟨b, off, rfl, h⟩
theorem Sl4.at {w : World} {a : Option Addr} {xs : List Q4} (h : Sl4 w a xs) : Sl4b w.heap.size w a xs := by
  rcases h with h | ⟨b, off, rfl, h⟩
  · exact .inl h
  · exact .inr ⟨b, off, rfl, h.1, h⟩
theorem grownBy_of_below {w w' : World} (h : Below w.heap.size w w') : w.grownBy w' none := ⟨h.os, h.tape, h.output, h.size, fun k hk _ => h.block k hk⟩
theorem ownsRow_lower {w : World} {B B' e s n : Nat} {v : Value} {xs : List Value} (h : w.ownsRow B e s v n xs) (hB : B' ≤ B) : w.ownsRow B' e s v n xs := by
  obtain ⟨h1, h2⟩ := h
  refine ⟨h1, ?_⟩
  rcases h2 with h2 | ⟨g, cap, cur, hv, hg, r⟩
  · exact .inl h2
  · exact .inr ⟨g, cap, cur, hv, Nat.le_trans hB hg, r⟩
end Go.Proofs.Ytgcencilgpilaaa.Own

namespace Go.Proofs.Ytgcencilgpilaaa.Own
open Go.RowKit
set_option linter.unusedVariables false

theorem run_jump {bs : List P2} {xs : List Q4} {k : Nat} {s : RunSt} (hk : k < xs.length) (hc : s.code = 0) (h6 : (xs.getD k q0).1 = 6) (hl : s.regs.getD (xs.getD k q0).2.1.toNat 0 < s.regs.getD (xs.getD k q0).2.2.1.toNat 0) : runR bs xs k s = runR bs xs (k + (xs.getD k q0).2.2.2.toNat + 1) s := by
  rw [runR, dif_pos hk, if_pos hc, if_pos h6, if_pos hl]
theorem run_go {bs : List P2} {xs : List Q4} {k : Nat} {s : RunSt} (hk : k < xs.length) (hc : s.code = 0) (h6 : (xs.getD k q0).1 = 6) (hl : ¬ s.regs.getD (xs.getD k q0).2.1.toNat 0 < s.regs.getD (xs.getD k q0).2.2.1.toNat 0) : runR bs xs k s = runR bs xs (k + 1) s := by
  rw [runR, dif_pos hk, if_pos hc, if_pos h6, if_neg hl]
theorem run_step {bs : List P2} {xs : List Q4} {k : Nat} {s : RunSt} (hk : k < xs.length) (hc : s.code = 0) (h6 : ¬ (xs.getD k q0).1 = 6) : runR bs xs k s = runR bs xs (k + 1) (stepR bs s (xs.getD k q0)) := by
  rw [runR, dif_pos hk, if_pos hc, if_neg h6]
theorem run_stop {bs : List P2} {xs : List Q4} {k : Nat} {s : RunSt} (hc : ¬ s.code = 0) : runR bs xs k s = s := by
  rw [runR]
  by_cases hk : k < xs.length
  · rw [dif_pos hk, if_neg hc]
  · rw [dif_neg hk]
theorem run_end {bs : List P2} {xs : List Q4} {k : Nat} {s : RunSt} (hk : ¬ k < xs.length) : runR bs xs k s = s := by
  rw [runR, dif_neg hk]

/-- What holds of a run at each of its instructions. -/
structure Inv (bs : List P2) (xs : List Q4) (s : RunSt) : Prop where
  four : s.regs.length = 4
  num : s.code = 0 → ∀ i, i < 4 → numOk (s.regs.getD i 0) = true
  code : s.code = 0 ∨ s.code = 1 ∨ s.code = 2
  rd : ∀ p, p ∈ s.reads → ∃ j : Nat, j < 4 ∧ p = ((j : Int), (bs.getD j (0, 0)).1) ∧ xs.any (fun q => loadsQ q (j : Int)) = true
  rdN : (s.reads.map Prod.fst).Nodup
  pt : ∀ p, p ∈ s.puts → ∃ j : Nat, j < 4 ∧ p.1 = (j : Int) ∧ numOk p.2 = true ∧ xs.any (fun q => putsQ q (j : Int)) = true
  ptN : (s.puts.map Prod.fst).Nodup

theorem hasBox_iff {ys : List P2} {j : Nat} : hasBox ys j = true ↔ (j : Int) ∈ ys.map Prod.fst := by
  simp [hasBox, List.any_eq_true]
theorem hasBox_no {ys : List P2} {j : Nat} : hasBox ys j = false ↔ (j : Int) ∉ ys.map Prod.fst := by
  rw [← Bool.not_eq_true, hasBox_iff]
theorem nodup_snoc {l : List Int} {x : Int} (h : l.Nodup) (hx : x ∉ l) : (l ++ [x]).Nodup := by
  rw [List.nodup_append]
  refine ⟨h, by simp, fun a ha b hb e => ?_⟩
  simp at hb
  subst hb e
  exact hx ha
theorem idx_lt {ys : List P2} {j : Nat} (h : hasBox ys j = true) : idxBox ys j < ys.length := by
  unfold hasBox at h
  rw [List.any_eq_true] at h
  obtain ⟨x, hx, hp⟩ := h
  exact List.findIdx_lt_length_of_exists ⟨x, hx, hp⟩
theorem idx_at {ys : List P2} {j : Nat} (h : hasBox ys j = true) : (ys.getD (idxBox ys j) (0, 0)).1 = (j : Int) := by
  have hl := idx_lt h
  have := List.findIdx_getElem (p := fun p : P2 => p.1 == (j : Int)) (xs := ys) (w := hl)
  rw [List.getD_eq_getElem?_getD, List.getElem?_eq_getElem hl]
  simp only [beq_iff_eq] at this
  exact this
theorem putP_fst (ys : List P2) (j : Nat) (n : Int) : (putP ys j n).map Prod.fst = if hasBox ys j then ys.map Prod.fst else ys.map Prod.fst ++ [(j : Int)] := by
  unfold putP
  cases h : hasBox ys j with
  | false => simp
  | true =>
    simp only [if_true]
    apply List.ext_getElem?
    intro i
    simp only [List.getElem?_map, List.getElem?_set]
    have hl := idx_lt h
    by_cases e : idxBox ys j = i
    · subst e
      simp [hl, List.getD]
    · simp [e]
theorem putP_mem {ys : List P2} {j : Nat} {n : Int} {p : P2} (hp : p ∈ putP ys j n) : p ∈ ys ∨ p = ((j : Int), n) := by
  unfold putP at hp
  cases h : hasBox ys j with
  | false => rw [h] at hp; simpa using hp
  | true =>
    rw [h] at hp
    simp only [if_true] at hp
    rcases List.mem_or_eq_of_mem_set hp with h' | h'
    · exact .inl h'
    · rw [idx_at h] at h'; exact .inr h'

theorem numOk_eq : numOk2 = numOk := rfl
theorem getD_setI (xs : List Int) (i j : Nat) (v : Int) (hi : i < xs.length) : (xs.set i v).getD j 0 = if i = j then v else xs.getD j 0 := by
  simp only [List.getD_eq_getElem?_getD, List.getElem?_set]
  by_cases e : i = j
  · simp [e, show j < xs.length by omega]
  · simp [e]

theorem Inv.setReg {bs : List P2} {xs : List Q4} {s : RunSt} (h : Inv bs xs s) (hc : s.code = 0) (a : Nat) (ha : a < 4) (n : Int) : Inv bs xs (setReg s a n) := by
  refine ⟨by simp [Own.setReg, h.four], fun hc' i hi => ?_, ?_, h.rd, h.rdN, h.pt, h.ptN⟩
  · simp only [Own.setReg] at hc' ⊢
    rw [getD_setI _ _ _ _ (by rw [h.four]; exact ha)]
    by_cases e : a = i
    · rw [if_pos e]
      cases hn : numOk n with
      | true => rfl
      | false => rw [hn] at hc'; simp at hc'
    · rw [if_neg e]; exact h.num hc i hi
  · simp only [Own.setReg]
    split
    · exact h.code
    · simp

theorem lookR_cases (bs xs ys : List P2) (j : Nat) : lookR bs xs ys j = xs ∨ (hasBox ys j = false ∧ hasBox xs j = false ∧ lookR bs xs ys j = xs ++ [((j : Int), (bs.getD j (0, 0)).1)]) := by
  unfold lookR
  cases hasBox ys j <;> cases hasBox xs j <;> simp

theorem Inv.step {bs : List P2} {xs : List Q4} {s : RunSt} (h : Inv bs xs s) (hc : s.code = 0) (p : Q4) (hp : insOk p = true) (hm : p ∈ xs) (h6 : p.1 ≠ 6) : Inv bs xs (stepR bs s p) := by
  obtain ⟨kd, a, b, n⟩ := p
  simp only [stepR]
  split
  · rename_i e; subst e
    rw [insOk_1] at hp
    simp only [Bool.and_eq_true] at hp
    obtain ⟨na, hna, rfl⟩ := regOk_nat hp.1.1
    obtain ⟨nb, hnb, rfl⟩ := regOk_nat hp.1.2
    simp only [Int.toNat_natCast]
    have h' : Inv bs xs { s with reads := lookR bs s.reads s.puts nb } := by
      refine ⟨h.four, h.num, h.code, fun p hp' => ?_, ?_, h.pt, h.ptN⟩
      · rcases lookR_cases bs s.reads s.puts nb with e | ⟨_, _, e⟩
        · simp only [e] at hp'; exact h.rd p hp'
        · simp only [e, List.mem_append, List.mem_singleton] at hp'
          rcases hp' with hp' | rfl
          · exact h.rd p hp'
          · exact ⟨nb, hnb, rfl, by rw [List.any_eq_true]; exact ⟨_, hm, by simp [loadsQ]⟩⟩
      · rcases lookR_cases bs s.reads s.puts nb with e | ⟨_, h2, e⟩
        · simp only [e]; exact h.rdN
        · simp only [e, List.map_append, List.map_cons, List.map_nil]
          exact nodup_snoc h.rdN (hasBox_no.1 h2)
    exact h'.setReg hc na hna _
  split
  · rename_i e; subst e
    rw [insOk_2] at hp
    simp only [Bool.and_eq_true] at hp
    obtain ⟨na, hna, rfl⟩ := regOk_nat hp.1.1
    obtain ⟨nb, hnb, rfl⟩ := regOk_nat hp.1.2
    simp only [Int.toNat_natCast]
    refine ⟨h.four, h.num, h.code, h.rd, h.rdN, fun p hp' => ?_, ?_⟩
    · rcases putP_mem hp' with h' | rfl
      · exact h.pt p h'
      · exact ⟨na, hna, rfl, h.num hc nb hnb, by rw [List.any_eq_true]; exact ⟨_, hm, by simp [putsQ]⟩⟩
    · simp only [putP_fst]
      split
      · exact h.ptN
      · rename_i e
        exact nodup_snoc h.ptN (hasBox_no.1 (by simpa using e))
  split
  · rename_i e; subst e
    rw [insOk_3] at hp
    simp only [Bool.and_eq_true] at hp
    obtain ⟨na, hna, rfl⟩ := regOk_nat hp.1.1
    exact h.setReg hc na hna _
  split
  · rename_i e; subst e
    rw [insOk_4] at hp
    simp only [Bool.and_eq_true] at hp
    obtain ⟨na, hna, rfl⟩ := regOk_nat hp.1.1
    exact h.setReg hc na hna _
  split
  · rename_i e; subst e
    rw [insOk_5] at hp
    simp only [Bool.and_eq_true] at hp
    obtain ⟨na, hna, rfl⟩ := regOk_nat hp.1.1
    exact h.setReg hc na hna _
  · exact ⟨h.four, fun e => by simp at e, by simp, h.rd, h.rdN, h.pt, h.ptN⟩

theorem Inv.init (bs : List P2) (xs : List Q4) : Inv bs xs initR := by
  refine ⟨rfl, fun _ i hi => ?_, .inl rfl, fun p hp => by simp [initR] at hp, by simp [initR], fun p hp => by simp [initR] at hp, by simp [initR]⟩
  have : i = 0 ∨ i = 1 ∨ i = 2 ∨ i = 3 := by omega
  rcases this with rfl | rfl | rfl | rfl <;> rfl

theorem getD_mem {xs : List Q4} {k : Nat} (h : k < xs.length) : xs.getD k q0 ∈ xs := by simp [List.getD, h]

theorem Inv.run {bs : List P2} {xs : List Q4} (hx : ∀ p, p ∈ xs → insOk p = true) (k : Nat) (s : RunSt) (h : Inv bs xs s) : Inv bs xs (runR bs xs k s) := by
  induction k, s using runR.induct (xs := xs) (bs := bs) with
  | case1 k s hk hc h6 hl ih => rw [run_jump hk hc h6 hl]; exact ih h
  | case2 k s hk hc h6 hl ih => rw [run_go hk hc h6 hl]; exact ih h
  | case3 k s hk hc h6 ih => rw [run_step hk hc h6]; exact ih (h.step hc _ (hx _ (getD_mem hk)) (getD_mem hk) h6)
  | case4 k s hk hc => rw [run_stop hc]; exact h
  | case5 k s hk => rw [run_end hk]; exact h

/-- The reads only grow. -/
theorem step_reads (bs : List P2) (s : RunSt) (p : Q4) : ∃ r, (stepR bs s p).reads = s.reads ++ r := by
  simp only [stepR]
  split
  · simp only [setReg]
    rcases lookR_cases bs s.reads s.puts p.2.2.1.toNat with e | ⟨_, _, e⟩
    · exact ⟨[], by simp [e]⟩
    · exact ⟨_, e⟩
  repeat' split
  all_goals exact ⟨[], by simp [setReg]⟩
theorem run_reads (bs : List P2) (xs : List Q4) (k : Nat) (s : RunSt) : ∃ r, (runR bs xs k s).reads = s.reads ++ r := by
  induction k, s using runR.induct (xs := xs) (bs := bs) with
  | case1 k s hk hc h6 hl ih => rw [run_jump hk hc h6 hl]; exact ih
  | case2 k s hk hc h6 hl ih => rw [run_go hk hc h6 hl]; exact ih
  | case3 k s hk hc h6 ih =>
    rw [run_step hk hc h6]
    obtain ⟨r, hr⟩ := ih
    obtain ⟨r', hr'⟩ := step_reads bs s (xs.getD k q0)
    exact ⟨r' ++ r, by rw [hr, hr', List.append_assoc]⟩
  | case4 k s hk hc => rw [run_stop hc]; exact ⟨[], by simp⟩
  | case5 k s hk => rw [run_end hk]; exact ⟨[], by simp⟩

/-- On boxes that are the same where a run looked it is the same. -/
theorem run_same (bs bs' : List P2) (xs : List Q4) (k : Nat) (s : RunSt) (h : ∀ j : Nat, (j : Int) ∈ (runR bs xs k s).reads.map Prod.fst → bs'.getD j (0, 0) = bs.getD j (0, 0)) : runR bs' xs k s = runR bs xs k s := by
  induction k, s using runR.induct (xs := xs) (bs := bs) with
  | case1 k s hk hc h6 hl ih =>
    rw [run_jump hk hc h6 hl] at h
    rw [run_jump hk hc h6 hl, run_jump (bs := bs) hk hc h6 hl, ih h]
  | case2 k s hk hc h6 hl ih =>
    rw [run_go hk hc h6 hl] at h
    rw [run_go hk hc h6 hl, run_go (bs := bs) hk hc h6 hl, ih h]
  | case3 k s hk hc h6 ih =>
    rw [run_step hk hc h6] at h
    have e : stepR bs' s (xs.getD k q0) = stepR bs s (xs.getD k q0) := by
      obtain ⟨r, hr⟩ := run_reads bs xs (k + 1) (stepR bs s (xs.getD k q0))
      rw [hr] at h
      generalize xs.getD k q0 = p at h
      clear hr ih
      unfold stepR at h ⊢
      by_cases h1 : p.1 = 1
      · rw [if_pos h1, if_pos h1]
        rw [if_pos h1] at h
        simp only [setReg] at h
        have hb : hasBox s.puts p.2.2.1.toNat = true ∨ (hasBox s.puts p.2.2.1.toNat = false ∧ bs'.getD p.2.2.1.toNat (0, 0) = bs.getD p.2.2.1.toNat (0, 0)) := by
          cases hp : hasBox s.puts p.2.2.1.toNat with
          | true => exact .inl rfl
          | false =>
            refine .inr ⟨rfl, h _ ?_⟩
            rw [List.map_append, List.mem_append]
            left
            unfold lookR
            rw [hp]
            cases hq : hasBox s.reads p.2.2.1.toNat with
            | true => simpa using hasBox_iff.1 hq
            | false => simp
        rcases hb with hb | ⟨hb, hb'⟩
        · simp only [lookR, inBox, hb, if_true]
        · simp only [lookR, inBox, hb, hb']
      · rw [if_neg h1, if_neg h1]
    rw [run_step hk hc h6, run_step (bs := bs) hk hc h6, e, ih h]
  | case4 k s hk hc => rw [run_stop hc, run_stop hc]
  | case5 k s hk => rw [run_end hk, run_end hk]

/-- The same but for how often boxes were written. -/
structure Alike2 (s t : RunSt) : Prop where
  regs : s.regs = t.regs
  reads : s.reads.map Prod.fst = t.reads.map Prod.fst
  puts : s.puts = t.puts
  code : s.code = t.code

theorem hasBox_map {xs ys : List P2} (h : xs.map Prod.fst = ys.map Prod.fst) (j : Nat) : hasBox xs j = hasBox ys j := by
  cases e : hasBox ys j with
  | true => rw [hasBox_iff, h, ← hasBox_iff]; exact e
  | false => rw [hasBox_no, h, ← hasBox_no]; exact e

theorem step_alike {bs bs' : List P2} {s t : RunSt} (h : Alike2 s t) (p : Q4) (hv : p.1 = 1 → (bs.getD p.2.2.1.toNat (0, 0)).2 = (bs'.getD p.2.2.1.toNat (0, 0)).2) : Alike2 (stepR bs s p) (stepR bs' t p) := by
  obtain ⟨h1, h2, h3, h4⟩ := h
  unfold stepR
  by_cases e1 : p.1 = 1
  · rw [if_pos e1, if_pos e1]
    have hi : inBox bs s.puts p.2.2.1.toNat = inBox bs' t.puts p.2.2.1.toNat := by unfold inBox; rw [h3, hv e1]
    rw [hi]
    refine ⟨by simp only [setReg, h1], ?_, h3, by simp only [setReg, h4]⟩
    simp only [setReg, lookR, h3, hasBox_map h2]
    split
    · exact h2
    split
    · exact h2
    · simp [h2]
  rw [if_neg e1, if_neg e1]
  split
  · exact ⟨h1, h2, by simp only [h1, h3], h4⟩
  split
  · exact ⟨by simp only [setReg, h1], h2, h3, by simp only [setReg, h4]⟩
  split
  · exact ⟨by simp only [setReg, h1], h2, h3, by simp only [setReg, h1, h4]⟩
  split
  · exact ⟨by simp only [setReg, h1], h2, h3, by simp only [setReg, h1, h4]⟩
  · exact ⟨h1, h2, h3, rfl⟩

/-- On boxes of the same numbers, where a program can look, it does the same. -/
theorem run_alike {bs bs' : List P2} {xs : List Q4} (hv : ∀ p, p ∈ xs → p.1 = 1 → (bs.getD p.2.2.1.toNat (0, 0)).2 = (bs'.getD p.2.2.1.toNat (0, 0)).2) (k : Nat) (s t : RunSt) (h : Alike2 s t) : Alike2 (runR bs xs k s) (runR bs' xs k t) := by
  induction k, s using runR.induct (xs := xs) (bs := bs) generalizing t with
  | case1 k s hk hc h6 hl ih =>
    have hc' := hc; have hl' := hl
    rw [h.code] at hc'; rw [h.regs] at hl'
    rw [run_jump hk hc h6 hl, run_jump (bs := bs') hk hc' h6 hl']; exact ih t h
  | case2 k s hk hc h6 hl ih =>
    have hc' := hc; have hl' := hl
    rw [h.code] at hc'; rw [h.regs] at hl'
    rw [run_go hk hc h6 hl, run_go (bs := bs') hk hc' h6 hl']; exact ih t h
  | case3 k s hk hc h6 ih =>
    have hc' := hc
    rw [h.code] at hc'
    rw [run_step hk hc h6, run_step (bs := bs') hk hc' h6]; exact ih _ (step_alike h _ (hv _ (getD_mem hk)))
  | case4 k s hk hc =>
    have hc' := hc
    rw [h.code] at hc'
    rw [run_stop hc, run_stop hc']; exact h
  | case5 k s hk => rw [run_end hk, run_end hk]; exact h

/-- A program that goes on: what it does ahead, and then from some place on. -/
theorem run_append (bs : List P2) (xs zs : List Q4) (k : Nat) (s : RunSt) :
    ∃ e, xs.length ≤ e ∧ runR bs (xs ++ zs) k s = (if (runR bs xs k s).code = 0 then runR bs (xs ++ zs) e (runR bs xs k s) else runR bs xs k s) ∧
      ((∀ i, i < xs.length → (xs.getD i q0).1 = 6 → i + (xs.getD i q0).2.2.2.toNat < xs.length) → k ≤ xs.length → e = xs.length) := by
  have hg : ∀ i, i < xs.length → (xs ++ zs).getD i q0 = xs.getD i q0 := fun i hi => by simp [List.getD, List.getElem?_append_left hi]
  have hl' : ∀ i, i < xs.length → i < (xs ++ zs).length := fun i hi => by simp; omega
  induction k, s using runR.induct (xs := xs) (bs := bs) with
  | case1 k s hk hc h6 hl ih =>
    obtain ⟨e, h1, h2, h3⟩ := ih
    refine ⟨e, h1, ?_, fun hn hk' => h3 hn (by have := hn k hk h6; omega)⟩
    rw [run_jump hk hc h6 hl, ← h2]
    rw [← hg k hk] at h6 hl ⊢
    rw [run_jump (hl' k hk) hc h6 hl]
  | case2 k s hk hc h6 hl ih =>
    obtain ⟨e, h1, h2, h3⟩ := ih
    refine ⟨e, h1, ?_, fun hn hk' => h3 hn (by omega)⟩
    rw [run_go hk hc h6 hl, ← h2]
    rw [← hg k hk] at h6 hl
    rw [run_go (hl' k hk) hc h6 hl]
  | case3 k s hk hc h6 ih =>
    obtain ⟨e, h1, h2, h3⟩ := ih
    refine ⟨e, h1, ?_, fun hn hk' => h3 hn (by omega)⟩
    rw [run_step hk hc h6, ← h2]
    rw [← hg k hk] at h6 ⊢
    rw [run_step (hl' k hk) hc h6]
  | case4 k s hk hc =>
    refine ⟨xs.length, Nat.le_refl _, ?_, fun _ _ => rfl⟩
    rw [run_stop hc, run_stop hc, if_neg hc]
  | case5 k s hk =>
    refine ⟨k, by omega, ?_, fun _ h => by omega⟩
    rw [run_end (xs := xs) hk]
    by_cases hc : s.code = 0
    · rw [if_pos hc]
    · rw [if_neg hc, run_stop hc]
end Go.Proofs.Ytgcencilgpilaaa.Own

namespace Go.Proofs.Ytgcencilgpilaaa.Own
open Go.RowKit
set_option linter.unusedVariables false

theorem len_le_of_sub : ∀ {l m : List Int}, l.Nodup → (∀ x, x ∈ l → x ∈ m) → l.length ≤ m.length
  | [], m, _, _ => Nat.zero_le _
  | x :: l, m, hn, hs => by
    rw [List.nodup_cons] at hn
    have hx := hs x (by simp)
    have := len_le_of_sub (l := l) (m := m.erase x) hn.2 (fun y hy => by
      rw [List.mem_erase_of_ne (by rintro rfl; exact hn.1 hy)]
      exact hs y (by simp [hy]))
    rw [List.length_erase_of_mem hx] at this
    have hm : 0 < m.length := List.length_pos_of_mem hx
    simp only [List.length_cons]
    omega

theorem mem_boxesTo {f : Q4 → Int → Bool} {xs : List Q4} {k j : Nat} : (j : Int) ∈ boxesTo f xs k ↔ j < k ∧ xs.any (fun p => f p (j : Int)) = true := by
  induction k with
  | zero => simp [boxesTo]
  | succ k ih =>
    simp only [boxesTo, List.mem_append, ih]
    constructor
    · rintro (⟨h1, h2⟩ | h)
      · exact ⟨by omega, h2⟩
      · split at h
        · rename_i e
          simp at h
          have : j = k := by omega
          subst this
          exact ⟨by omega, e⟩
        · simp at h
    · rintro ⟨h1, h2⟩
      by_cases e : j = k
      · subst e; right; rw [if_pos h2]; simp
      · left; exact ⟨by omega, h2⟩

theorem okAll_of {f : Int → Bool} {ys : List P2} (hn : (ys.map Prod.fst).Nodup) (h : ∀ p, p ∈ ys → regOk p.1 = true ∧ f p.2 = true) : okAll f ys = true := by
  rw [okAll_iff]
  intro i hi
  have hm : ys.getD i (0, 0) ∈ ys := by simp [List.getD, hi]
  obtain ⟨h1, h2⟩ := h _ hm
  simp only [okAt, h1, h2, Bool.true_and, Bool.not_eq_true', List.any_eq_false, beq_iff_eq]
  intro p hp e
  obtain ⟨j, hj, rfl⟩ := List.getElem_of_mem hp
  rw [List.length_take] at hj
  rw [List.getElem_take] at e
  have hj' : j < ys.length := by omega
  have := List.pairwise_iff_getElem.1 hn j i (by simpa using hj') (by simpa using hi) (by omega)
  simp only [List.getElem_map] at this
  rw [List.getD_eq_getElem?_getD, List.getElem?_eq_getElem hi] at e
  exact this e

theorem progOk_ins {xs : List Q4} (h : progOk xs = true) : ∀ p, p ∈ xs → insOk p = true := by
  simp only [progOk, Bool.and_eq_true, List.all_eq_true] at h
  exact h.2

/-- The end of a run on what is ok. -/
theorem inv_of {bs : List P2} {xs : List Q4} (hp : progOk xs = true) : Inv bs xs (runR bs xs 0 initR) := (Inv.init bs xs).run (progOk_ins hp) 0 _

theorem outR_reads (s : RunSt) : (outR s).reads = s.reads := by unfold outR; split <;> rfl
theorem outR_puts (s : RunSt) : (outR s).puts = if s.code = 0 then s.puts else [] := by unfold outR; split <;> rfl
theorem outR_code (s : RunSt) : (outR s).code = s.code := by
  unfold outR; split
  · rename_i h; exact h.symm
  · rfl
theorem outR_val (s : RunSt) : (outR s).val = if s.code = 0 then s.regs.getD 0 0 else 0 := by unfold outR; split <;> rfl

theorem reads_ok {bs : List P2} {xs : List Q4} {s : RunSt} (hb : boxOk bs = true) (h : Inv bs xs s) : okAll verOk s.reads = true := by
  refine okAll_of h.rdN fun p hp => ?_
  obtain ⟨j, hj, rfl, _⟩ := h.rd p hp
  have := boxOk_ver hb j hj
  exact ⟨regOk_of j hj, by simp only [verOk, Bool.and_eq_true, decide_eq_true_eq]; exact this⟩
theorem puts_ok {bs : List P2} {xs : List Q4} {s : RunSt} (h : Inv bs xs s) : okAll numOk s.puts = true := by
  refine okAll_of h.ptN fun p hp => ?_
  obtain ⟨j, hj, e, hv, _⟩ := h.pt p hp
  exact ⟨by rw [e]; exact regOk_of j hj, hv⟩
theorem okAll_nil (f : Int → Bool) : okAll f [] = true := rfl

theorem out_ok {bs : List P2} {xs : List Q4} {s : RunSt} (hb : boxOk bs = true) (h : Inv bs xs s) : execOk (outR s).reads (outR s).puts (outR s).val (outR s).code = true := by
  unfold outR
  split
  · rename_i hc
    simp only [execOk, endOk, if_true, Bool.and_eq_true]
    exact ⟨⟨h.num hc 0 (by omega), reads_ok hb h⟩, puts_ok h⟩
  · rename_i hc
    have e : s.code = 1 ∨ s.code = 2 := by rcases h.code with e | e | e; exact absurd e hc; exact .inl e; exact .inr e
    simp only [execOk, endOk, if_neg hc, if_pos e, List.length_nil, decide_true, Bool.and_true, Bool.and_eq_true]
    exact ⟨by simp [reads_ok hb h], okAll_nil _⟩

theorem execRun_ok (bs : List P2) (xs : List Q4) : execOk (execRun bs xs).reads (execRun bs xs).puts (execRun bs xs).val (execRun bs xs).code = true := by
  unfold execRun
  cases hb : boxOk bs <;> cases hp : progOk xs
  · rfl
  · rfl
  · rfl
  · exact out_ok hb (inv_of hp)

theorem execRun_is {bs : List P2} {xs : List Q4} (hb : boxOk bs = true) (hp : progOk xs = true) : execRun bs xs = outR (runR bs xs 0 initR) := by simp [execRun, hb, hp]
theorem execRun_form {bs : List P2} {xs : List Q4} (h : (boxOk bs && progOk xs) = false) : execRun bs xs = ⟨[], [], 0, 3⟩ := by simp [execRun, h]

theorem reads_few {bs : List P2} {xs : List Q4} {s : RunSt} (h : Inv bs xs s) : s.reads.length ≤ (boxesTo loadsQ xs 4).length := by
  have := len_le_of_sub (l := s.reads.map Prod.fst) (m := boxesTo loadsQ xs 4) h.rdN (fun x hx => by
    rw [List.mem_map] at hx
    obtain ⟨p, hp, rfl⟩ := hx
    obtain ⟨j, hj, rfl, ha⟩ := h.rd p hp
    exact mem_boxesTo.2 ⟨hj, ha⟩)
  simpa using this
theorem puts_few {bs : List P2} {xs : List Q4} {s : RunSt} (h : Inv bs xs s) : s.puts.length ≤ (boxesTo putsQ xs 4).length := by
  have := len_le_of_sub (l := s.puts.map Prod.fst) (m := boxesTo putsQ xs 4) h.ptN (fun x hx => by
    rw [List.mem_map] at hx
    obtain ⟨p, hp, rfl⟩ := hx
    obtain ⟨j, hj, e, _, ha⟩ := h.pt p hp
    rw [e]
    exact mem_boxesTo.2 ⟨hj, ha⟩)
  simpa using this
theorem boxesTo_len' (f : Q4 → Int → Bool) (xs : List Q4) (k : Nat) : (boxesTo f xs k).length ≤ k := by
  induction k with
  | zero => simp [boxesTo]
  | succ k ih => simp only [boxesTo, List.length_append]; split <;> simp <;> omega
theorem execRun_few (bs : List P2) (xs : List Q4) : (execRun bs xs).reads.length ≤ (boxesTo loadsQ xs 4).length ∧ (execRun bs xs).puts.length ≤ (boxesTo putsQ xs 4).length := by
  cases h : boxOk bs && progOk xs with
  | false => rw [execRun_form h]; exact ⟨Nat.zero_le _, Nat.zero_le _⟩
  | true =>
    simp only [Bool.and_eq_true] at h
    rw [execRun_is h.1 h.2, outR_reads, outR_puts]
    have hi := inv_of (bs := bs) h.2
    refine ⟨reads_few hi, ?_⟩
    split
    · exact puts_few hi
    · exact Nat.zero_le _
theorem execRun_four (bs : List P2) (xs : List Q4) : (execRun bs xs).reads.length ≤ 4 ∧ (execRun bs xs).puts.length ≤ 4 := by
  have := execRun_few bs xs
  have h1 := boxesTo_len' loadsQ xs 4
  have h2 := boxesTo_len' putsQ xs 4
  omega

theorem freshAt_of {bs : List P2} {j : Nat} : freshAt bs ((j : Int), (bs.getD j (0, 0)).1) = true := by simp [freshAt]
theorem execRun_fresh {bs : List P2} {xs : List Q4} (hb : boxOk bs = true) (hp : progOk xs = true) : execFresh bs (execRun bs xs).reads (execRun bs xs).puts (execRun bs xs).val (execRun bs xs).code = true := by
  simp only [execFresh, hb, execRun_ok, Bool.true_and]
  rw [execRun_is hb hp, outR_reads, List.all_eq_true]
  intro p hp'
  obtain ⟨j, hj, rfl, _⟩ := (inv_of (bs := bs) hp).rd p hp'
  exact freshAt_of

/-- On other boxes that are the same where it looked a run is the same. -/
theorem execRun_same {bs bs' : List P2} {xs : List Q4} (hb : boxOk bs = true) (hb' : boxOk bs' = true) (hp : progOk xs = true) (h : ∀ j : Nat, j < 4 → hasBox (execRun bs xs).reads j = true → bs'.getD j (0, 0) = bs.getD j (0, 0)) : execRun bs' xs = execRun bs xs := by
  rw [execRun_is hb hp, execRun_is hb' hp]
  rw [execRun_is hb hp, outR_reads] at h
  rw [run_same bs bs' xs 0 initR]
  intro j hj
  have hi := inv_of (bs := bs) hp
  have hj' := hj
  rw [List.mem_map] at hj
  obtain ⟨p, hp', e⟩ := hj
  obtain ⟨i, hi4, rfl, _⟩ := hi.rd p hp'
  simp only at e
  have : i = j := by omega
  subst this
  exact h i hi4 (hasBox_iff.2 hj')

/-- On boxes of the same numbers, where the program can look, a run does the same. -/
theorem execRun_alike {bs bs' : List P2} {xs : List Q4} (hb : boxOk bs = true) (hb' : boxOk bs' = true) (hv : ∀ j : Nat, j < 4 → (j : Int) ∈ boxesTo loadsQ xs 4 → (bs.getD j (0, 0)).2 = (bs'.getD j (0, 0)).2) : (execRun bs xs).puts = (execRun bs' xs).puts ∧ (execRun bs xs).val = (execRun bs' xs).val ∧ (execRun bs xs).code = (execRun bs' xs).code := by
  cases hp : progOk xs with
  | false => rw [execRun_form (by simp [hp]), execRun_form (by simp [hp])]; exact ⟨rfl, rfl, rfl⟩
  | true =>
    rw [execRun_is hb hp, execRun_is hb' hp]
    have := run_alike (bs := bs) (bs' := bs') (xs := xs) (fun p hp' e => by
      have hi := progOk_ins hp p hp'
      obtain ⟨kd, a, b, n⟩ := p
      simp only at e
      subst e
      rw [insOk_1] at hi
      simp only [Bool.and_eq_true] at hi
      obtain ⟨j, hj, rfl⟩ := regOk_nat hi.1.2
      simp only [Int.toNat_natCast]
      exact hv j hj (mem_boxesTo.2 ⟨hj, by rw [List.any_eq_true]; exact ⟨_, hp', by simp [loadsQ]⟩⟩)) 0 initR initR ⟨rfl, rfl, rfl, rfl⟩
    rw [outR_puts, outR_puts, outR_val, outR_val, outR_code, outR_code, this.puts, this.regs, this.code]
    exact ⟨rfl, rfl, rfl⟩
end Go.Proofs.Ytgcencilgpilaaa.Own

namespace Go.Proofs.Ytgcencilgpilaaa.Own
open Go.RowKit
set_option linter.unusedVariables false
set_option linter.unusedSimpArgs false

set_option maxRecDepth 100000 in
set_option maxHeartbeats 1000000 in
theorem specProgOk (a : Option Addr) (c : Nat) (xs : List Q4) (w : World) (h : Sl4 w a xs) (hn : xs.length ≤ 2 ^ 40) :
    Calls Try.prog 88 #[.slice a xs.length c] w fun e w' => e = .returned (.bool (progOk xs)) ∧ Below w.heap.size w w' := by
  have E : Hid (progOk xs = (decide (xs.length ≤ 10) && xs.all insOk)) := rfl
  have H1 : Hid (Sl4 w a xs) := h
  clear h
  by_cases hl : xs.length ≤ 10
  · have HL : Hid (decide (xs.length ≤ 10) = true) := by show _ = _; simpa using hl
    go_enter Try.func88, Try.ntmps88
    go_wp2
    go_loopw [3] (fun i wr => ∃ k : Nat, k ≤ xs.length ∧ i = .int .i64 k ∧ Hid ((xs.take k).all insOk = true) ∧ Below w.heap.size w wr) (fun i _ => xs.length - (intOf i).toNat)
    case atStart => exact ⟨0, Nat.zero_le _, rfl, rfl, Below.refl _ _⟩
    case round =>
      obtain ⟨k, hk, rfl, hA, hB⟩ := hrel
      by_cases hlt : k < xs.length
      · rcases H1.out with h | ⟨b1, o1, rfl, h1⟩
        · subst h; simp at hlt
        have H1' : Hid (At4 w b1 o1 xs) := h1
        clear h1
        obtain ⟨p, hp⟩ : ∃ p, p = xs.getD k q0 := ⟨_, rfl⟩
        obtain ⟨ca, cb, cc, cd⟩ := H1'.out.2 k hlt
        rw [← hB.cell H1'.out.1, ← hp] at ca cb cc cd
        have HP : Hid (p = xs.getD k q0) := hp
        have HB : Hid (Below w.heap.size w wr) := hB
        clear hp hB
        have CP := fun W => l2Ins p W
        have N : Hid (insOk p = true → (xs.take (k + 1)).all insOk = true) := by
          intro t
          rw [all_take_succ q0 hlt, hA.out, ← HP.out, t]; rfl
        have F : Hid (insOk p = false → xs.all insOk = false) := fun t => all_false (k := k) q0 hlt (by rw [← HP.out]; exact t)
        generalize insOk p = r at CP N F
        obtain ⟨p1, p2, p3, p4⟩ := p
        have CP' : Hid (∀ W, Calls Try.prog 129 #[.agg #[.int .i64 p1, .int .i64 p2, .int .i64 p3, .int .i64 p4]] W fun e w' => e = .returned (.bool r) ∧ Below W.heap.size W w') := CP
        clear CP
        cases r with
        | true =>
          have N' : Hid ((xs.take (k + 1)).all insOk = true) := N.out rfl
          clear N F
          go_wp2_with fail
          refine (CP'.out _).mono ?_
          rintro e w1 ⟨rfl, hb1⟩
          have B1 : Hid (Below w.heap.size w w1) := HB.out.trans (hb1.mono HB.out.size)
          clear hb1
          go_wp2
          go_roundw
          case rel => exact ⟨k + 1, by omega, by go_num, N'.out, B1.out⟩
          case measure => simp [intOf]; omega
        | false =>
          have F' : Hid (xs.all insOk = false) := F.out rfl
          clear N F
          go_wp2_with fail
          refine (CP'.out _).mono ?_
          rintro e w1 ⟨rfl, hb1⟩
          have B1 : Hid (Below w.heap.size w w1) := HB.out.trans (hb1.mono HB.out.size)
          clear hb1
          go_wp2
          go_ret
          exact ⟨ret_bool (by rw [E.out, F'.out]; simp), B1.out⟩
      · go_wp2
        go_ret
        have : k = xs.length := by omega
        subst this
        refine ⟨ret_bool ?_, hB⟩
        have h := hA.out
        rw [List.take_length] at h
        rw [E.out, HL.out, h]; rfl
  · have HL : Hid (decide (xs.length ≤ 10) = false) := by show _ = _; simpa using hl
    have hl' : (10 : Int) < (xs.length : Int) := by omega
    go_enter Try.func88, Try.ntmps88
    go_wp2
    go_ret
    exact ⟨ret_bool (by rw [E.out, HL.out]; rfl), Below.refl _ _⟩
end Go.Proofs.Ytgcencilgpilaaa.Own
