/-
  Own text: what laws.toInsSS, eqInsSS and markInsSS do.
-/
import Derived.Test.YtgcencilgpilaaaQSSOps
import Derived.Deep.Cut
namespace Go.Proofs.Ytgcencilgpilaaa.Own
open Go.RowKit Go.Sort
set_option linter.unusedVariables false
set_option linter.unusedSimpArgs false

theorem getD_snoc_lt {α : Type} (l : List α) (x d : α) {i : Nat} (h : i < l.length) : (l ++ [x]).getD i d = l.getD i d := by simp [List.getD, List.getElem?_append_left h]
theorem getD_snoc_eq {α : Type} (l : List α) (x d : α) : (l ++ [x]).getD l.length d = x := by simp [List.getD]
theorem take_getD {α : Type} (l : List α) (d : α) {i k : Nat} (h : i < k) : (l.take k).getD i d = l.getD i d := by simp [List.getD, List.getElem?_take_of_lt h]

theorem madeP (w : World) (n : Nat) : RowP (w.alloc (.cells (madeCells (Value.slice none 0 0).cells (n * 1)) 51)) w.heap.size n := by
  refine ⟨_, _, heap_new _ _, by rw [size_madeCells]; omega, ?_⟩
  intro v hv
  obtain ⟨k, hk, rfl⟩ := Array.getElem_of_mem hv
  rw [size_madeCells] at hk
  obtain ⟨v, h1, h2⟩ := made_cell (z := (Value.slice none 0 0).cells) (n := n * 1) (k := k) (by decide) hk (by simp [Value.cells, Value.oneCell'])
  rw [Array.getElem?_eq_getElem (by simpa [size_madeCells] using hk)] at h1
  injection h1 with h1
  rw [h1]; exact h2

/-- The first programs have been copied. -/
theorem CopyPS.snoc {w w1 : World} {g0 : Nat} {gs : List Nat} {xss : List (List Q4)} {xs : List Q4} {n : Nat} (h : CopyPS w g0 gs xss) (hb : Below w.heap.size w w1) (ha : At4 w1 w.heap.size 0 xs) (hr : Row4 w1 w.heap.size xs.length) (hp : RowP w1 g0 n) (hn : xss.length < n) :
    CopyPS (w1.setCell ⟨g0, xss.length, none⟩ (.slice (some ⟨w.heap.size, 0, none⟩) xs.length xs.length)) g0 (gs ++ [w.heap.size]) (xss ++ [xs]) := by
  have h1 := h.below hb
  have hl := h.len
  have h0 := h.lt0
  have T : Turned [g0] w1 (w1.setCell ⟨g0, xss.length, none⟩ (.slice (some ⟨w.heap.size, 0, none⟩) xs.length xs.length)) :=
    ⟨rfl, rfl, rfl, by simp [World.setCell], fun k _ hn => Below.heap_setCell _ _ _ _ (by simpa using hn)⟩
  have rows : ∀ b m, Row4 w1 b m → b ≠ g0 → Row4 (w1.setCell ⟨g0, xss.length, none⟩ (.slice (some ⟨w.heap.size, 0, none⟩) xs.length xs.length)) b m := fun b m hr hne => by
    obtain ⟨C, c1, c2⟩ := hr
    exact ⟨C, by rw [T.block b (Array.getElem?_eq_some_iff.1 c1).1 (by simpa using hne)]; exact c1, c2⟩
  obtain ⟨u, hu, _⟩ := hp.cell xss.length hn
  have elim : ∀ i, i < (xss ++ [xs]).length → i < xss.length ∨ i = xss.length := fun i hi => by simp at hi; omega
  refine ⟨by simp [hl], by simpa [World.setCell] using h1.lt0, fun i hi => ?_, fun i hi => ?_, fun i hi => ?_, fun i hi => ?_, fun i j hij hj => ?_⟩
  · rcases elim i hi with h' | h'
    · rw [getD_snoc_lt _ _ _ h', getD_snoc_lt _ _ _ (by omega), setCell_cell_other _ _ _ _ _ (by omega)]
      exact h1.cell i h'
    · subst h'
      rw [getD_snoc_eq]
      have : (gs ++ [w.heap.size]).getD xss.length 0 = w.heap.size := by rw [← hl]; exact getD_snoc_eq _ _ _
      rw [this]
      exact setCell_cell_same _ _ _ _ _ hu
  · rcases elim i hi with h' | h'
    · rw [getD_snoc_lt _ _ _ h', getD_snoc_lt _ _ _ (by omega)]
      have := h.lo i h'
      exact (h1.at4 i h').turned T (fun hx => by simp only [List.mem_singleton] at hx; omega)
    · subst h'
      have : (gs ++ [w.heap.size]).getD xss.length 0 = w.heap.size := by rw [← hl]; exact getD_snoc_eq _ _ _
      rw [getD_snoc_eq, this]
      exact ha.turned T (fun hx => by simp only [List.mem_singleton] at hx; omega)
  · rcases elim i hi with h' | h'
    · rw [getD_snoc_lt _ _ _ h', getD_snoc_lt _ _ _ (by omega)]
      have := h.lo i h'
      exact rows _ _ (h1.row i h') (by omega)
    · subst h'
      have : (gs ++ [w.heap.size]).getD xss.length 0 = w.heap.size := by rw [← hl]; exact getD_snoc_eq _ _ _
      rw [getD_snoc_eq, this]
      exact rows _ _ hr (by omega)
  · rcases elim i hi with h' | h'
    · rw [getD_snoc_lt _ _ _ (by omega)]; exact h.lo i h'
    · subst h'
      have : (gs ++ [w.heap.size]).getD xss.length 0 = w.heap.size := by rw [← hl]; exact getD_snoc_eq _ _ _
      rw [this]; exact h0
  · rcases elim j hj with h' | h'
    · rw [getD_snoc_lt _ _ _ (by omega), getD_snoc_lt _ _ _ (by omega)]; exact h.asc i j hij h'
    · subst h'
      have e : (gs ++ [w.heap.size]).getD xss.length 0 = w.heap.size := by rw [← hl]; exact getD_snoc_eq _ _ _
      rw [e, getD_snoc_lt _ _ _ (by omega)]
      exact (h.row i hij).lt

set_option maxHeartbeats 2000000 in
theorem toInsSS (a : Option Addr) (c : Nat) (ps : List PS) (w : World) (h : SlQ w a ps) (hn : ps.length ≤ 2 ^ 40) (hl : ∀ i, i < ps.length → (ps.getD i p0).2.2.length ≤ 2 ^ 40) :
    Calls Try.prog 35 #[.slice a ps.length c] w fun e w' => e = .returned (.slice (some ⟨w.heap.size, 0, none⟩) ps.length ps.length) ∧ (∃ gs, CopyPS w' w.heap.size gs (progsOf ps)) ∧ Below w.heap.size w w' := by
  have HS : Hid (SlQ w a ps) := h
  have HL : Hid (∀ i, i < ps.length → (ps.getD i p0).2.2.length ≤ 2 ^ 40) := hl
  clear h hl
  have hmk := make_row (P := Try.prog) Try.underlying45 infoInsSZ ps.length (by omega) (by omega)
  go_enter Try.func35, Try.ntmps35
  go_wp2
  clear hmk
  go_loopw [4] (fun i wr => ∃ (k : Nat) (gs : List Nat), k ≤ ps.length ∧ i = .int .i64 k ∧ Hid (CopyPS wr w.heap.size gs ((progsOf ps).take k) ∧ RowP wr w.heap.size ps.length ∧ Below w.heap.size w wr)) (fun i _ => ps.length - (intOf i).toNat)
  case atStart =>
    refine ⟨0, [], Nat.zero_le _, rfl, ⟨by simp, by simp, fun i hi => by simp at hi, fun i hi => by simp at hi, fun i hi => by simp at hi, fun i hi => by simp at hi, fun i j _ hj => by simp at hj⟩, by simpa [Value.cells] using madeP w ps.length, (Below.refl _ _).alloc (Nat.le_refl _) _⟩
  case round =>
    obtain ⟨k, gs, hk, rfl, IV⟩ := hrel
    have PL : (progsOf ps).length = ps.length := by simp [progsOf]
    by_cases hlt : k < ps.length
    · have hki : (k : Int) < (ps.length : Int) := by omega
      rcases HS.out.below IV.out.2.2 with hh | ⟨b, off, rfl, _, hh⟩
      · rw [hh] at hlt; simp at hlt
      obtain ⟨cx, sx⟩ := hh k hlt
      have lx := HL.out k hlt
      have NX : Hid ((progsOf ps).take (k + 1) = (progsOf ps).take k ++ [(ps.getD k p0).2.2]) := by
        show _ = _
        rw [List.take_succ_eq_append_getElem (by omega)]
        congr 2
        simp [progsOf, List.getD, hlt]
      have LK : Hid (((progsOf ps).take k).length = k) := by show _ = _; simp [PL]; omega
      have SX : Hid (Sl4 wr (ps.getD k p0).1 (ps.getD k p0).2.2) := sx
      unfold psV at cx
      clear hh sx PL
      generalize ps.getD k p0 = q at cx SX lx NX
      obtain ⟨pa, pc, px⟩ := q
      simp only at cx SX lx NX
      go_wp2_with fail
      refine (toInsS pa pc px wr SX.out lx).mono ?_
      rintro e w1 ⟨rfl, ha, hr, hb⟩
      have RP : Hid (RowP w1 w.heap.size ps.length) := IV.out.2.1.below hb
      have CN : Hid _ := IV.out.1.snoc hb ha hr RP.out (by rw [LK.out]; exact hlt)
      have B1 : Hid (Below w.heap.size w w1) := IV.out.2.2.trans (hb.mono IV.out.2.2.size)
      obtain ⟨u, hu, _⟩ := RP.out.cell k hlt
      have fu := RP.out.frozen k
      clear ha hr hb cx
      go_wp2_with fail
      go_roundw
      case rel =>
        refine ⟨k + 1, gs ++ [wr.heap.size], by omega, by go_num, ?_, RP.out.set _ _ rfl, B1.out.setCell (Nat.le_refl _) _⟩
        have := CN.out
        rw [LK.out] at this
        rw [NX.out]
        exact this
      case measure => simp [intOf]; omega
    · have hki : ¬ (k : Int) < (ps.length : Int) := by omega
      obtain rfl : k = ps.length := by omega
      go_wp2_with fail
      go_ret
      have := IV.out
      rw [List.take_of_length_le (by omega)] at this
      exact ⟨rfl, ⟨gs, this.1⟩, this.2.2⟩

set_option maxRecDepth 100000 in
set_option maxHeartbeats 2000000 in
theorem eqInsSS (b1 b2 : Nat) (g1 g2 : List Nat) (xss : List (List Q4)) (w : World) (h1 : CopyPS w b1 g1 xss) (h2 : CopyPS w b2 g2 xss) (hn : xss.length ≤ 2 ^ 40) (hl : ∀ i, i < xss.length → (xss.getD i []).length ≤ 2 ^ 40) :
    Calls Try.prog 38 #[.slice (some ⟨b1, 0, none⟩) xss.length xss.length, .slice (some ⟨b2, 0, none⟩) xss.length xss.length] w fun e w' => e = .returned (.bool true) ∧ Below w.heap.size w w' := by
  have H1 : Hid (CopyPS w b1 g1 xss) := h1
  have H2 : Hid (CopyPS w b2 g2 xss) := h2
  have HL : Hid (∀ i, i < xss.length → (xss.getD i []).length ≤ 2 ^ 40) := hl
  clear h1 h2 hl
  have hne : ((xss.length : Int) != (xss.length : Int)) = false := by simp
  go_enter Try.func38, Try.ntmps38
  go_wp2_with fail
  go_loopw [5] (fun i wr => ∃ k : Nat, k ≤ xss.length ∧ i = .int .i64 k ∧ Hid (Below w.heap.size w wr)) (fun i _ => xss.length - (intOf i).toNat)
  case atStart => exact ⟨0, Nat.zero_le _, rfl, Below.refl _ _⟩
  case round =>
    obtain ⟨k, hk, rfl, KR⟩ := hrel
    by_cases hlt : k < xss.length
    · have hki : (k : Int) < (xss.length : Int) := by omega
      have c1 := (H1.out.below KR.out).cell k hlt
      have c2 := (H2.out.below KR.out).cell k hlt
      have EQ : Hid (∀ d os, Calls Try.prog 96 #[.slice (some ⟨g1.getD k 0, 0, none⟩) (xss.getD k []).length (xss.getD k []).length, .slice (some ⟨g2.getD k 0, 0, none⟩) (xss.getD k []).length (xss.getD k []).length] (grow (redrawn wr d) os) fun e w'' => e = .returned (.bool true) ∧ ∃ p : Regrown, w'' = grow (redrawn wr p.d) p.os) := fun d os => by
        have hb := below_regrown wr d os
        have h := eqInsS (some ⟨g1.getD k 0, 0, none⟩) (some ⟨g2.getD k 0, 0, none⟩) (xss.getD k []).length (xss.getD k []).length (xss.getD k []) (xss.getD k []) _ (.inr ⟨_, _, rfl, ((H1.out.below KR.out).below hb).at4 k hlt⟩) (.inr ⟨_, _, rfl, ((H2.out.below KR.out).below hb).at4 k hlt⟩) (HL.out k hlt) (HL.out k hlt)
        rw [show (xss.getD k [] == xss.getD k []) = true by simp] at h
        exact Calls.regrown_of h
      generalize g1.getD k 0 = y1 at c1 EQ
      generalize g2.getD k 0 = y2 at c2 EQ
      generalize (xss.getD k []).length = m at c1 c2 EQ
      have m1 := cell_regrown c1
      have m2 := cell_regrown c2
      clear c1 c2
      go_upto_region 6 with fail
      refine wp_region_quiet_below (by kernel_rfl) (by kernel_rfl) ?_
      repeat (go_big_quiet_step (first | (go_at_call 96; exact EQ.out _ _)))
      refine wpQuiet_nil ?_
      intro Y hw'
      obtain ⟨⟨dq, osq⟩, hw''⟩ := hw'
      have hx : Below wr.heap.size wr Y := by rw [hw'']; exact below_regrown wr dq osq
      have KY : Hid (Below w.heap.size w Y) := KR.out.trans (hx.mono KR.out.size)
      clear hx hw'' m1 m2
      go_wp2_with fail
      go_roundw
      case rel => exact ⟨k + 1, by omega, by go_num, KY.out⟩
      case measure => simp [intOf]; omega
    · have hki : ¬ (k : Int) < (xss.length : Int) := by omega
      go_wp2_with fail
      go_ret
      exact ⟨rfl, KR.out⟩

theorem Row4.turnedN {L : List Nat} {w w' : World} {b n : Nat} (h : Row4 w b n) (ht : Turned L w w') (hb : b ∉ L) : Row4 w' b n := by
  obtain ⟨C, c1, c2⟩ := h
  exact ⟨C, by rw [ht.block b (Array.getElem?_eq_some_iff.1 c1).1 hb]; exact c1, c2⟩
theorem markInsN (b n c : Nat) (k : Int) (w : World) (hn : n ≤ 2 ^ 40) (hk0 : 0 ≤ k) (hk : k ≤ 2 ^ 40) (h : Row4 w b n) :
    Calls Try.prog 97 #[.slice (some ⟨b, 0, none⟩) n c, .int .i64 k] w fun e w' => e = .returned (.int .i64 (k + 4 * n)) ∧ Turned [b] w w' := by
  refine (markInsS b 0 n c k w hn hk0 hk (fun o => h.frozen o) (fun i hi => by rw [Nat.zero_add]; exact h.cell i (by omega)) h.lt).mono ?_
  rintro e w' ⟨rfl, _, ho⟩
  exact ⟨rfl, Turned.ofOnly ho (by simp)⟩

def sumX (xss : List (List Q4)) : Nat → Nat
  | 0 => 0
  | k + 1 => sumX xss k + (xss.getD k []).length

set_option maxHeartbeats 2000000 in
theorem markInsSS (b : Nat) (gs : List Nat) (xss : List (List Q4)) (k0 : Int) (w : World) (h : CopyPS w b gs xss) (hn : xss.length ≤ 2 ^ 30) (hs : ∀ k, k ≤ xss.length → sumX xss k ≤ 2 ^ 30) (hk0 : 0 ≤ k0) (hk1 : k0 ≤ 2 ^ 30) :
    Calls Try.prog 40 #[.slice (some ⟨b, 0, none⟩) xss.length xss.length, .int .i64 k0] w fun e w' => e = .returned (.int .i64 (k0 + 4 * (sumX xss xss.length : Nat))) ∧ Turned gs w w' := by
  have H1 : Hid (CopyPS w b gs xss) := h
  have HS : Hid (∀ k, k ≤ xss.length → sumX xss k ≤ 2 ^ 30) := hs
  have HM : Hid (∀ i, i < xss.length → gs.getD i 0 ∈ gs) := fun i hi => by
    have : i < gs.length := by rw [h.len]; exact hi
    simp [List.getD, this]
  clear h hs
  go_enter Try.func40, Try.ntmps40
  go_wp2_with fail
  go_loopw [1, 5] (fun q i wr => ∃ k : Nat, k ≤ xss.length ∧ i = .int .i64 k ∧ q = .int .i64 (k0 + 4 * (sumX xss k : Nat)) ∧ Hid (Turned (gs.take k) w wr)) (fun _ i _ => xss.length - (intOf i).toNat)
  case atStart => exact ⟨0, Nat.zero_le _, rfl, by simp [sumX], Turned.refl _ _⟩
  case round =>
    obtain ⟨k, hk, rfl, rfl, TR⟩ := hrel
    by_cases hlt : k < xss.length
    · have hki : (k : Int) < (xss.length : Int) := by omega
      have inTake : ∀ x, x ∈ gs.take k → ∃ i, i < k ∧ x = gs.getD i 0 := fun x hx => by
        rw [List.mem_take_iff_getElem] at hx
        obtain ⟨i, hi, e⟩ := hx
        exact ⟨i, by omega, by rw [← e]; simp [List.getD, show i < gs.length by omega]⟩
      have nb : b ∉ gs.take k := fun hx => by
        obtain ⟨i, hi, e⟩ := inTake _ hx
        have := H1.out.lo i (by omega)
        omega
      have ng : gs.getD k 0 ∉ gs.take k := fun hx => by
        obtain ⟨i, hi, e⟩ := inTake _ hx
        have := H1.out.asc i k hi hlt
        omega
      have cx : wr.cell? ⟨b, k, none⟩ = _ := (World.cell?_of_block (w := w) (a := ⟨b, k, none⟩) (TR.out.block b H1.out.lt0 nb)).trans (H1.out.cell k hlt)
      have RX : Hid (Row4 wr (gs.getD k 0) (xss.getD k []).length) := (H1.out.row k hlt).turnedN TR.out ng
      have NS : Hid (sumX xss (k + 1) = sumX xss k + (xss.getD k []).length) := rfl
      have s1 := HS.out (k + 1) (by omega)
      have s0 := HS.out k (by omega)
      rw [NS.out] at s1
      have NT : Hid (∀ W, Turned [gs.getD k 0] wr W → Turned (gs.take (k + 1)) w W) := fun W ht => by
        have hgl : k < gs.length := by rw [H1.out.len]; exact hlt
        rw [List.take_succ_eq_append_getElem hgl]
        refine (TR.out.mono (fun x hx => List.mem_append_left _ hx)).trans (ht.mono (fun x hx => ?_))
        simp only [List.mem_singleton] at hx
        subst hx
        apply List.mem_append_right
        simp [List.getD, hgl]
      clear inTake nb ng
      generalize gs.getD k 0 = y at cx RX NT
      generalize (xss.getD k []).length = m at cx RX NS s1
      obtain ⟨z, hz, z0, z1⟩ : ∃ z : Int, z = k0 + 4 * (sumX xss k : Nat) ∧ 0 ≤ z ∧ z ≤ 2 ^ 40 := ⟨_, rfl, by omega, by omega⟩
      rw [← hz]
      have HZ : Hid (z = k0 + 4 * (sumX xss k : Nat)) := hz
      clear hz
      go_wp2_with fail
      refine (markInsN y m m z wr (by omega) z0 z1 RX.out).mono ?_
      rintro e w1 ⟨rfl, ht⟩
      have T1 : Hid (Turned (gs.take (k + 1)) w w1) := NT.out w1 ht
      clear ht cx
      go_wp2_with fail
      go_roundw
      case rel => exact ⟨k + 1, by omega, by go_num, by have := NS.out; have := HZ.out; congr 1; omega, T1.out⟩
      case measure => simp [intOf]; omega
    · have hki : ¬ (k : Int) < (xss.length : Int) := by omega
      obtain rfl : k = xss.length := by omega
      have T1 : Hid (Turned gs w wr) := by
        have := TR.out
        rw [List.take_of_length_le (by rw [H1.out.len]; exact Nat.le_refl _)] at this
        exact this
      go_wp2_with fail
      go_ret
      exact ⟨rfl, T1.out⟩
end Go.Proofs.Ytgcencilgpilaaa.Own
