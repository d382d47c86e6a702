/-
  Own text: what laws.szInsSS, toInsSS, eqInsSS and markInsSS do.
-/
import Derived.Test.YtgcencilgpilaaaQSerMem
import Derived.Test.YtgcencilgpilaaaQTo4
import Derived.Test.YtgcencilgpilaaaQEq4
import Derived.Test.YtgcencilgpilaaaQMark4
import Derived.BigQuiet
import Derived.Lib.QuietBelow
namespace Go.Proofs.Ytgcencilgpilaaa.Own
open Go.RowKit Go.Sort
set_option linter.unusedVariables false
set_option linter.unusedSimpArgs false

theorem infoInsSZ : (Try.prog.info? 51).map (fun i => (i.zero, i.size, i.bytes)) = some (some (.slice none 0 0), 1, 24) := by kernel_rfl

/-- Programs that came in, of whatever length. -/
def SlQ (w : World) (a : Option Addr) (ps : List PS) : Prop := ps = [] ∨ ∃ b off, a = some ⟨b, off, none⟩ ∧ b < w.heap.size ∧ ∀ i, i < ps.length → w.cell? ⟨b, off + i, none⟩ = some (psV (ps.getD i p0)) ∧ Sl4 w (ps.getD i p0).1 (ps.getD i p0).2.2
theorem SlQ.below {w w' : World} {a : Option Addr} {ps : List PS} (h : SlQ w a ps) (hb : Below w.heap.size w w') : SlQ w' a ps := by
  rcases h with h | ⟨b, off, rfl, hlt, h⟩
  · exact .inl h
  · exact .inr ⟨b, off, rfl, Nat.lt_of_lt_of_le hlt hb.size, fun i hi => by
      rw [hb.cell (p := ⟨b, off + i, none⟩) hlt]; exact ⟨(h i hi).1, (h i hi).2.below hb⟩⟩

/-- How many instructions the first k programs hold. -/
def sumL (ps : List PS) : Nat → Nat
  | 0 => 0
  | k + 1 => sumL ps k + (ps.getD k p0).2.2.length
theorem sumL_mono (ps : List PS) {i k : Nat} (h : i ≤ k) : sumL ps i ≤ sumL ps k := by
  induction k with
  | zero => obtain rfl : i = 0 := by omega
            exact Nat.le_refl _
  | succ k ih =>
    by_cases e : i = k + 1
    · subst e; exact Nat.le_refl _
    · have := ih (by omega); simp only [sumL]; omega
theorem sumL_at (ps : List PS) {i k : Nat} (h : i < k) : (ps.getD i p0).2.2.length ≤ sumL ps k := by
  have := sumL_mono ps (show i + 1 ≤ k by omega)
  simp only [sumL] at this
  omega

set_option maxHeartbeats 1000000 in
theorem szInsSS (a : Option Addr) (c : Nat) (ps : List PS) (left : Nat) (w : World) (h : SlQ w a ps) (hl : ps.length ≤ maxLen) (hm : ∀ i, i < ps.length → (ps.getD i p0).2.2.length ≤ maxLen) (h1 : left ≤ 2 ^ 60) :
    Calls Try.prog 33 #[.slice a ps.length c, .int .i64 left] w fun e w' => e = .returned (.int .i64 (if left < ps.length + sumL ps ps.length then -1 else (left : Int) - (ps.length + sumL ps ps.length : Nat))) ∧ w' = w := by
  have HS : Hid (SlQ w a ps) := h
  have HM : Hid (∀ i, i < ps.length → (ps.getD i p0).2.2.length ≤ maxLen) := hm
  clear h hm
  unfold maxLen at hl
  obtain ⟨T, hT⟩ : ∃ T, T = ps.length + sumL ps ps.length := ⟨_, rfl⟩
  rw [← hT]
  have HT : Hid (T = ps.length + sumL ps ps.length) := hT
  obtain ⟨r, hr⟩ : ∃ r : Int, r = if left < T then -1 else (left : Int) - (T : Nat) := ⟨_, rfl⟩
  rw [← hr]
  have HR1 : Hid (left < T → r = -1) := fun h => by rw [hr, if_pos h]
  have HR2 : Hid (¬ left < T → r = (left : Int) - (T : Nat)) := fun h => by rw [hr, if_neg h]
  clear hT hr
  by_cases h0 : left < ps.length
  · have hneg : ((left : Int) - (ps.length : Int)) < 0 := by omega
    have hlt : Hid (left < T) := by have := HT.out; show _ < _; omega
    go_enter Try.func33, Try.ntmps33
    go_wp2_with fail
    go_ret
    exact ⟨ret_int (HR1.out hlt.out).symm, rfl⟩
  · have hneg : ¬ ((left : Int) - (ps.length : Int)) < 0 := by omega
    go_enter Try.func33, Try.ntmps33
    go_wp2_with fail
    go_loopw [1, 5] (fun q i wr => ∃ k : Nat, k ≤ ps.length ∧ i = .int .i64 k ∧ ps.length + sumL ps k ≤ left ∧ q = .int .i64 ((left : Int) - ps.length - (sumL ps k : Nat)) ∧ wr = w) (fun _ i _ => ps.length - (intOf i).toNat)
    case atStart => exact ⟨0, Nat.zero_le _, rfl, by simp [sumL]; omega, by simp [sumL], rfl⟩
    case round =>
      obtain ⟨k, hk, rfl, hle, rfl, rfl⟩ := hrel
      by_cases hlt : k < ps.length
      · have hki : (k : Int) < (ps.length : Int) := by omega
        rcases HS.out with hh | ⟨b, off, rfl, _, hh⟩
        · rw [hh] at hlt; simp at hlt
        have cx := (hh k hlt).1
        have MX := HM.out k hlt
        have NX : Hid (sumL ps (k + 1) = sumL ps k + (ps.getD k p0).2.2.length) := rfl
        have TM : Hid (ps.length + sumL ps (k + 1) ≤ T) := by have := sumL_mono ps (show k + 1 ≤ ps.length by omega); have := HT.out; show _ ≤ _; omega
        unfold psV at cx
        clear hh
        generalize ps.getD k p0 = q at cx MX NX
        obtain ⟨pa, pc, px⟩ := q
        simp only at cx MX NX
        obtain ⟨z, hz, z0⟩ : ∃ z : Int, z = (left : Int) - ps.length - (sumL ps k : Nat) ∧ 0 ≤ z := ⟨_, rfl, by omega⟩
        rw [← hz]
        have HZ : Hid (z = (left : Int) - ps.length - (sumL ps k : Nat)) := hz
        have z1 : z ≤ 2 ^ 60 := by omega
        clear hz
        go_wp2_with fail
        refine (szInsS pa px.length pc z _ MX z0 z1).mono ?_
        rintro e w1 ⟨rfl, hw⟩
        subst hw
        by_cases hc : z - (px.length : Int) < 0
        · rw [if_pos hc]
          have LT : Hid (left < T) := by have := TM.out; have := NX.out; have := HZ.out; show _ < _; omega
          go_wp2_with fail
          go_ret
          exact ⟨ret_int (HR1.out LT.out).symm, rfl⟩
        · rw [if_neg hc]
          go_wp2_with fail
          go_roundw
          case rel => exact ⟨k + 1, by omega, by go_num, by have := NX.out; have := HZ.out; omega, by have := NX.out; have := HZ.out; congr 1; omega, by first | trivial | rfl⟩
          case measure => simp [intOf]; omega
      · have hki : ¬ (k : Int) < (ps.length : Int) := by omega
        obtain rfl : k = ps.length := by omega
        go_wp2_with fail
        go_ret
        have ht := HT.out
        have h2 := HR2.out (by omega)
        exact ⟨ret_int (by omega), rfl⟩

/-- Programs in memory of their own: the list in block g0, program i in block gs i. -/
structure CopyPS (w : World) (g0 : Nat) (gs : List Nat) (xss : List (List Q4)) : Prop where
  len : gs.length = xss.length
  lt0 : g0 < w.heap.size
  cell : ∀ i, i < xss.length → w.cell? ⟨g0, i, none⟩ = some (.slice (some ⟨gs.getD i 0, 0, none⟩) (xss.getD i []).length (xss.getD i []).length)
  at4 : ∀ i, i < xss.length → At4 w (gs.getD i 0) 0 (xss.getD i [])
  row : ∀ i, i < xss.length → Row4 w (gs.getD i 0) (xss.getD i []).length
  lo : ∀ i, i < xss.length → g0 < gs.getD i 0
  asc : ∀ i j, i < j → j < xss.length → gs.getD i 0 < gs.getD j 0
theorem CopyPS.below {w w' : World} {g0 : Nat} {gs : List Nat} {xss : List (List Q4)} (h : CopyPS w g0 gs xss) (hb : Below w.heap.size w w') : CopyPS w' g0 gs xss :=
  ⟨h.len, Nat.lt_of_lt_of_le h.lt0 hb.size, fun i hi => by rw [hb.cell (p := ⟨g0, i, none⟩) h.lt0]; exact h.cell i hi, fun i hi => (h.at4 i hi).below hb, fun i hi => (h.row i hi).below hb (h.row i hi).lt, h.lo, h.asc⟩
def psOf (gs : List Nat) (xss : List (List Q4)) : List PS := (List.range xss.length).map fun i => (some ⟨gs.getD i 0, 0, none⟩, (xss.getD i []).length, xss.getD i [])
theorem psOf_len (gs : List Nat) (xss : List (List Q4)) : (psOf gs xss).length = xss.length := by simp [psOf]
theorem psOf_at (gs : List Nat) (xss : List (List Q4)) {i : Nat} (hi : i < xss.length) : (psOf gs xss).getD i p0 = (some ⟨gs.getD i 0, 0, none⟩, (xss.getD i []).length, xss.getD i []) := by simp [psOf, List.getD, hi]
theorem psOf_progs (gs : List Nat) (xss : List (List Q4)) : progsOf (psOf gs xss) = xss := by
  unfold progsOf psOf
  rw [List.map_map]
  apply List.ext_getElem
  · simp
  · intro i h1 h2
    simp at h1
    simp [List.getD, h1]
theorem CopyPS.slP {w : World} {g0 : Nat} {gs : List Nat} {xss : List (List Q4)} (h : CopyPS w g0 gs xss) (hl : ∀ i, i < xss.length → (xss.getD i []).length ≤ 2 ^ 40) : SlP w (some ⟨g0, 0, none⟩) (psOf gs xss) := by
  refine .inr ⟨g0, 0, rfl, h.lt0, fun i hi => ?_⟩
  rw [psOf_len] at hi
  rw [psOf_at gs xss hi, Nat.zero_add]
  exact ⟨h.cell i hi, .inr ⟨_, 0, rfl, h.at4 i hi⟩, hl i hi⟩

/-- A block of n cells. -/
def RowP (w : World) (b n : Nat) : Prop := ∃ cs t, w.heap[b]? = some (.cells cs t (0, 0)) ∧ cs.size = n ∧ ∀ v ∈ cs, v.oneCell' = true
theorem RowP.below {w w' : World} {b n : Nat} (h : RowP w b n) (hb : Below w.heap.size w w') : RowP w' b n := by
  obtain ⟨cs, t, h1, h2⟩ := h
  exact ⟨cs, t, by rw [hb.block b (Array.getElem?_eq_some_iff.1 h1).1]; exact h1, h2⟩
theorem RowP.cell {w : World} {b n : Nat} (h : RowP w b n) (i : Nat) (hi : i < n) : ∃ v, w.cell? ⟨b, i, none⟩ = some v ∧ v.oneCell' = true := by
  obtain ⟨cs, t, h1, h2, h3⟩ := h
  exact ⟨cs[i]'(by omega), by rw [cell_heap h1]; simp [show i < cs.size by omega], h3 _ (Array.getElem_mem _)⟩
theorem RowP.frozen {w : World} {b n : Nat} (h : RowP w b n) (o : Nat) : w.frozen? ⟨b, o, none⟩ = false := by
  obtain ⟨cs, t, h1, _⟩ := h
  exact frozen_heap h1 o
theorem RowP.lt {w : World} {b n : Nat} (h : RowP w b n) : b < w.heap.size := by
  obtain ⟨cs, t, h1, _⟩ := h
  exact (Array.getElem?_eq_some_iff.1 h1).1
theorem RowP.set {w : World} {b n : Nat} (h : RowP w b n) (o : Nat) (v : Value) (hv : v.oneCell' = true) : RowP (w.setCell ⟨b, o, none⟩ v) b n := by
  obtain ⟨cs, t, h1, h2, h3⟩ := h
  refine ⟨cs.setIfInBounds o v, t, ?_, by simpa using h2, ?_⟩
  · simp [World.setCell, Array.getElem?_modify, h1]
  · intro u hu
    rcases Array.mem_or_eq_of_mem_setIfInBounds hu with h | h
    · exact h3 u h
    · rw [h]; exact hv
end Go.Proofs.Ytgcencilgpilaaa.Own
