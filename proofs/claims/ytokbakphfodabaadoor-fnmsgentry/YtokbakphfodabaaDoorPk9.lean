/-
  Own texts, bundled: DrawQ, DrawProg, DrawEnt, DrawAny, OpenS, Open.
-/
import Derived.Test.YtokbakphfodabaaDoorPk3
import Derived.Test.YtokbakphfodabaaDoorPk8
import Derived.Test.YtokbakphfodabaaDoorPk2
import Derived.Deep.Cut
import Derived.Deep.CutRange
import Derived.Deep.AppendLies
import Derived.Test.YtokbakphfodabaaDoorPk4
import Derived.Test.YtokbakphfodabaaDoorPk7
import Derived.Deep.CutBlock
import Derived.Test.YtokbakphfodabaaDoorPk5
import Derived.Test.YtokbakphfodabaaDoorPk1
namespace Go.Proofs.YtokbakphfodabaaDoor.Own
open Go.RowKit
set_option linter.unusedVariables false
set_option linter.unusedSimpArgs false

theorem nums_newQ (w : World) (zs : List Int) (cs : Array Value) (t : TypeId) (h : cs = (zs.map (Value.int .i64)).toArray) : Nums (w.alloc (.cells cs t)) w.heap.size zs := by
  subst h
  refine ⟨by rw [size_new]; omega, fun i hi => ?_⟩
  rw [cell_heap (heap_new _ _)]
  simp [List.getD, hi]

/-- Four cells that may be written. -/
def F4 (w : World) (b : Nat) (x0 x1 x2 x3 : Value) : Prop := C4 w b x0 x1 x2 x3 ∧ ∀ o, w.frozen? ⟨b, o, none⟩ = false
theorem F4.new (w : World) (x0 x1 x2 x3 : Value) (t : TypeId) : F4 (w.alloc (.cells #[x0, x1, x2, x3] t)) w.heap.size x0 x1 x2 x3 := ⟨C4.new _ _ _ _ _ _, fun o => frozen_heap (heap_new _ _) o⟩
theorem F4.block {w w' : World} {b : Nat} {x0 x1 x2 x3 : Value} (h : F4 w b x0 x1 x2 x3) (hs : w.heap.size ≤ w'.heap.size) (hb : w'.heap[b]? = w.heap[b]?) : F4 w' b x0 x1 x2 x3 := by
  have e : ∀ o, w'.cell? ⟨b, o, none⟩ = w.cell? ⟨b, o, none⟩ := fun o => World.cell?_of_block (w := w) (a := ⟨b, o, none⟩) hb
  refine ⟨⟨Nat.lt_of_lt_of_le h.1.1 hs, ?_⟩, fun o => by rw [World.frozen?_of_block (w := w) (a := ⟨b, o, none⟩) hb]; exact h.2 o⟩
  rw [e, e, e, e]; exact h.1.2
theorem F4.only {w w' : World} {b c : Nat} {x0 x1 x2 x3 : Value} (h : F4 w b x0 x1 x2 x3) (ho : Only c w w') (hc : b ≠ c) : F4 w' b x0 x1 x2 x3 := h.block (Nat.le_of_eq ho.size.symm) (ho.block b hc)
theorem F4.alloc {w : World} {b : Nat} {x0 x1 x2 x3 : Value} (h : F4 w b x0 x1 x2 x3) (o : Obj) : F4 (w.alloc o) b x0 x1 x2 x3 := h.block (by rw [size_new]; omega) (heap_old w o b h.1.1)

theorem F4.far {w : World} {b c o : Nat} {x0 x1 x2 x3 : Value} (h : F4 w b x0 x1 x2 x3) (hc : b ≠ c) (v : Value) : F4 (w.setCell ⟨c, o, none⟩ v) b x0 x1 x2 x3 := h.only ((Only.refl c w).setCell _) hc
theorem F4.set1 {w : World} {b : Nat} {x0 x1 x2 x3 : Value} (h : F4 w b x0 x1 x2 x3) (v : Value) : F4 (w.setCell ⟨b, 1, none⟩ v) b x0 v x2 x3 :=
  ⟨⟨by simpa [World.setCell] using h.1.1, by rw [setCell_cell_other _ _ _ _ _ (by omega)]; exact h.1.2.1, setCell_cell_same _ _ _ _ _ h.1.2.2.1, by rw [setCell_cell_other _ _ _ _ _ (by omega)]; exact h.1.2.2.2.1, by rw [setCell_cell_other _ _ _ _ _ (by omega)]; exact h.1.2.2.2.2⟩, fun o => by simpa using h.2 o⟩
theorem F4.set2 {w : World} {b : Nat} {x0 x1 x2 x3 : Value} (h : F4 w b x0 x1 x2 x3) (v : Value) : F4 (w.setCell ⟨b, 2, none⟩ v) b x0 x1 v x3 :=
  ⟨⟨by simpa [World.setCell] using h.1.1, by rw [setCell_cell_other _ _ _ _ _ (by omega)]; exact h.1.2.1, by rw [setCell_cell_other _ _ _ _ _ (by omega)]; exact h.1.2.2.1, setCell_cell_same _ _ _ _ _ h.1.2.2.2.1, by rw [setCell_cell_other _ _ _ _ _ (by omega)]; exact h.1.2.2.2.2⟩, fun o => by simpa using h.2 o⟩

theorem smq {k a b n : Int} (h1 : -2000000 ≤ k ∧ k ≤ 2000000) (h2 : -2000000 ≤ a ∧ a ≤ 2000000) (h3 : -2000000 ≤ b ∧ b ≤ 2000000) (h4 : -2000000 ≤ n ∧ n ≤ 2000000) : SmQ (k, a, b, n) := ⟨h1, h2, h3, h4⟩

theorem six_small {v : Int} (h : v ∈ ([0, 1, 5, -2, 100, 1000000] : List Int)) : -2000000 ≤ v ∧ v ≤ 2000000 := by simp at h; omega
theorem ten_kinds {v : Int} (h : v ∈ ([1, 1, 2, 2, 3, 4, 4, 5, 6, 7] : List Int)) : 1 ≤ v ∧ v ≤ 7 := by simp at h; omega

set_option maxRecDepth 100000 in
set_option maxHeartbeats 4000000 in
theorem l2Any (rb B p : Nat) (w : World) (h : Rd w rb B p) (hp : p ≤ 2 ^ 30) :
    Calls Tryd.prog 83 #[.pointer (some ⟨rb, 0, none⟩)] w fun e w' => (∃ k a b n : Int, e = .returned (.agg #[.int .i64 k, .int .i64 a, .int .i64 b, .int .i64 n]) ∧ SmQ (k, a, b, n)) ∧ (∃ p', p' ≤ p + 10 ∧ Rd w' rb B p') ∧ Bar rb w w' := by
  have HR : Hid (Rd w rb B p) := h
  have hrb : rb < w.heap.size := Nat.lt_of_lt_of_le h.1 h.2.1
  have HBs : Hid (B ≤ w.heap.size) := h.2.1
  clear h
  have R0 : Hid (F4 (w.alloc (.cells #[.int .i64 0, .int .i64 0, .int .i64 0, .int .i64 0] 142)) w.heap.size (.int .i64 0) (.int .i64 0) (.int .i64 0) (.int .i64 0)) := F4.new _ _ _ _ _ _
  go_enter Tryd.func83, Tryd.ntmps83
  go_wp2_with fail
  refine (num rb B p (w.heap.size + 1) 10 10 [1, 1, 2, 2, 3, 4, 4, 5, 6, 7] _ ((HR.out.alloc _).alloc _) (by omega) (by have := nums_newQ (w.alloc (.cells #[.int .i64 0, .int .i64 0, .int .i64 0, .int .i64 0] 142)) [1, 1, 2, 2, 3, 4, 4, 5, 6, 7] _ 3 rfl; rw [size_new] at this; exact this) rfl (by omega) (by omega) (by omega)).mono ?_
  rintro e w1 ⟨⟨k, rfl, hk⟩, hR, hO⟩
  have HK : Hid (1 ≤ k ∧ k ≤ 7) := ten_kinds hk
  have R1 : Hid (F4 w1 w.heap.size (.int .i64 0) (.int .i64 0) (.int .i64 0) (.int .i64 0)) := (R0.out.alloc _).only hO (by omega)
  have D1 : Hid (Rd w1 rb B (p + 1)) := hR
  have B1 : Hid (Bar rb w w1) := (((Bar.refl rb w).alloc _).alloc _).trans (Bar.ofOnly hO)
  clear hk hR hO
  go_wp2_with fail
  refine (pick rb B (p + 1) 3 w1 D1.out (by omega) (by omega) (by omega)).mono ?_
  rintro e w2 ⟨⟨a, rfl, a0, a1⟩, hR, hO⟩
  have R2 : Hid (F4 w2 w.heap.size (.int .i64 0) (.int .i64 0) (.int .i64 0) (.int .i64 0)) := R1.out.only hO (by omega)
  have D2 : Hid (Rd w2 rb B (p + 1 + 1)) := hR
  have B2 : Hid (Bar rb w w2) := B1.out.trans (Bar.ofOnly hO)
  have HA : Hid (0 ≤ a ∧ a < 3) := ⟨a0, a1⟩
  clear hR hO a0 a1
  go_wp2_with fail
  refine (pick rb B (p + 1 + 1) 3 w2 D2.out (by omega) (by omega) (by omega)).mono ?_
  rintro e w3 ⟨⟨b, rfl, b0, b1⟩, hR, hO⟩
  obtain ⟨X, hX⟩ : ∃ X, X = w3.alloc (.cells #[.int .i64 k, .int .i64 a, .int .i64 b, .int .i64 0] 142) := ⟨_, rfl⟩
  have R3 : Hid (F4 X w.heap.size (.int .i64 0) (.int .i64 0) (.int .i64 0) (.int .i64 0)) := by show F4 _ _ _ _ _ _; rw [hX]; exact (R2.out.only hO (by omega)).alloc _
  have I3 : Hid (F4 X w3.heap.size (.int .i64 k) (.int .i64 a) (.int .i64 b) (.int .i64 0)) := by show F4 _ _ _ _ _ _; rw [hX]; exact F4.new _ _ _ _ _ _
  have D3 : Hid (Rd X rb B (p + 1 + 1 + 1)) := by show Rd _ _ _ _; rw [hX]; exact hR.alloc _
  have B3 : Hid (Bar rb w X) := by show Bar _ _ _; rw [hX]; exact (B2.out.trans (Bar.ofOnly hO)).alloc _
  have S3 : Hid (w.heap.size < w3.heap.size) := by
    show _ < _
    have h1 := R2.out.1.1
    have h2 := hO.size
    omega
  have HBb : Hid (0 ≤ b ∧ b < 3) := ⟨b0, b1⟩
  have HX : Hid (X = _) := hX
  clear hR hO b0 b1 hX
  have hrw : w.heap.size < w3.heap.size := S3.out
  have hBs := HBs.out
  obtain ⟨⟨_, i0, i1, i2, i3⟩, ifr⟩ := I3.out
  obtain ⟨⟨_, r0, r1, r2, r3⟩, rfr⟩ := R3.out
  go_upto_region 2 with fail
  rw [← HX.out]
  have EN : Hid (∀ (W : World) (p' : Nat), Rd W rb B p' → Bar rb w W → ∀ x0 x1 x2 x3 : Value, Rd ((((W.setCell ⟨w.heap.size, 0, none⟩ x0).setCell ⟨w.heap.size, 1, none⟩ x1).setCell ⟨w.heap.size, 2, none⟩ x2).setCell ⟨w.heap.size, 3, none⟩ x3) rb B p' ∧ Bar rb w ((((W.setCell ⟨w.heap.size, 0, none⟩ x0).setCell ⟨w.heap.size, 1, none⟩ x1).setCell ⟨w.heap.size, 2, none⟩ x2).setCell ⟨w.heap.size, 3, none⟩ x3)) := by
    intro W p' hR hB x0 x1 x2 x3
    exact ⟨(((hR.setCell (q := ⟨w.heap.size, 0, none⟩) hBs x0).setCell (q := ⟨w.heap.size, 1, none⟩) hBs x1).setCell (q := ⟨w.heap.size, 2, none⟩) hBs x2).setCell (q := ⟨w.heap.size, 3, none⟩) hBs x3, (((hB.setCell (Nat.le_refl _) _).setCell (Nat.le_refl _) _).setCell (Nat.le_refl _) _).setCell (Nat.le_refl _) _⟩
  have hIw : w.heap.size ≤ w3.heap.size := by omega
  have hIB : B ≤ w3.heap.size := by omega
  cases t3 : (k == 3) with
  | true =>
    have K3 : Hid (k = 3) := by show _ = _; simpa using t3
    obtain ⟨X1, hX1⟩ : ∃ X1, X1 = X.setCell ⟨w3.heap.size, 2, none⟩ (.int .i64 0) := ⟨_, rfl⟩
    have J1 : Hid (F4 X1 w3.heap.size (.int .i64 k) (.int .i64 a) (.int .i64 0) (.int .i64 0)) := by show F4 _ _ _ _ _ _; rw [hX1]; exact I3.out.set2 _
    have Q1 : Hid (F4 X1 w.heap.size (.int .i64 0) (.int .i64 0) (.int .i64 0) (.int .i64 0)) := by show F4 _ _ _ _ _ _; rw [hX1]; exact R3.out.far (by omega) _
    have E1 : Hid (Rd X1 rb B (p + 1 + 1 + 1)) := by show Rd _ _ _ _; rw [hX1]; exact D3.out.setCell (q := ⟨w3.heap.size, 2, none⟩) hIB _
    have A1 : Hid (Bar rb w X1) := by show Bar _ _ _; rw [hX1]; exact B3.out.setCell (p := ⟨w3.heap.size, 2, none⟩) hIw _
    have HX1 : Hid (X1 = _) := hX1
    clear hX1
    go_upto_region 5 with fail
    rw [← HX1.out]
    clear i0 i1 i2 i3 ifr r0 r1 r2 r3 rfr
    obtain ⟨⟨_, i0, i1, i2, i3⟩, ifr⟩ := J1.out
    obtain ⟨⟨_, r0, r1, r2, r3⟩, rfr⟩ := Q1.out
    go_wp2_with fail
    refine (num rb B (p + 1 + 1 + 1) X1.heap.size 6 6 [0, 1, 5, -2, 100, 1000000] _ (E1.out.alloc _) (by omega) (nums_newQ _ _ _ _ rfl) rfl (by omega) (by omega) (by have := A1.out.size; omega)).mono ?_
    rintro e w4 ⟨⟨n, rfl, hn⟩, hR, hO⟩
    have HN : Hid (-2000000 ≤ n ∧ n ≤ 2000000) := six_small hn
    have I4 := ((J1.out.alloc _).only hO (by omega))
    have R4 := ((Q1.out.alloc _).only hO (by omega))
    have D4 : Hid (Rd w4 rb B (p + 1 + 1 + 1 + 1)) := hR
    have B4 : Hid (Bar rb w w4) := (A1.out.alloc _).trans (Bar.ofOnly hO)
    clear hR hO hn i0 i1 i2 i3 ifr r0 r1 r2 r3 rfr
    obtain ⟨⟨_, i0, i1, i2, i3⟩, ifr⟩ := I4
    obtain ⟨⟨_, r0, r1, r2, r3⟩, rfr⟩ := R4
    go_wp2
    refine bodyPost_ret (v := .agg #[.int .i64 k, .int .i64 a, .int .i64 0, .int .i64 n]) (by simp [results, Tryd.results83, go_sem, r0, r1, r2, r3]) rfl ⟨⟨k, a, 0, n, rfl, ?_⟩, ?_⟩
    · have := HK.out; have := HA.out; have := HN.out
      exact smq (by omega) (by omega) (by omega) (by omega)
    · have h := EN.out (w4.setCell ⟨w3.heap.size, 3, none⟩ (.int .i64 n)) _ (D4.out.setCell (q := ⟨w3.heap.size, 3, none⟩) hIB _) (B4.out.setCell (p := ⟨w3.heap.size, 3, none⟩) hIw _) (.int .i64 k) (.int .i64 a) (.int .i64 0) (.int .i64 n)
      exact ⟨⟨_, by omega, h.1⟩, h.2⟩
  | false =>
    cases t6 : (k == 6) with
    | true =>
      go_wp2_with fail
      refine (pick rb B (p + 1 + 1 + 1) 3 X D3.out (by omega) (by omega) (by omega)).mono ?_
      rintro e w4 ⟨⟨n, rfl, n0, n1⟩, hR, hO⟩
      have I4 := (I3.out.only hO (by omega))
      have R4 := (R3.out.only hO (by omega))
      have D4 : Hid (Rd w4 rb B (p + 1 + 1 + 1 + 1)) := hR
      have B4 : Hid (Bar rb w w4) := B3.out.trans (Bar.ofOnly hO)
      clear hR hO i0 i1 i2 i3 ifr r0 r1 r2 r3 rfr
      obtain ⟨⟨_, i0, i1, i2, i3⟩, ifr⟩ := I4
      obtain ⟨⟨_, r0, r1, r2, r3⟩, rfr⟩ := R4
      go_wp2
      refine bodyPost_ret (v := .agg #[.int .i64 k, .int .i64 a, .int .i64 b, .int .i64 (1 + n)]) (by simp [results, Tryd.results83, go_sem, r0, r1, r2, r3]) rfl ⟨⟨k, a, b, 1 + n, rfl, ?_⟩, ?_⟩
      · have := HK.out; have := HA.out; have := HBb.out
        exact smq (by omega) (by omega) (by omega) (by omega)
      · have h := EN.out (w4.setCell ⟨w3.heap.size, 3, none⟩ (.int .i64 (1 + n))) _ (D4.out.setCell (q := ⟨w3.heap.size, 3, none⟩) hIB _) (B4.out.setCell (p := ⟨w3.heap.size, 3, none⟩) hIw _) (.int .i64 k) (.int .i64 a) (.int .i64 b) (.int .i64 (1 + n))
        exact ⟨⟨_, by omega, h.1⟩, h.2⟩
    | false =>
      cases t7 : (k == 7) with
      | true =>
        go_wp2_with fail
        refine (pick rb B (p + 1 + 1 + 1) 3 X D3.out (by omega) (by omega) (by omega)).mono ?_
        rintro e w4 ⟨⟨n, rfl, n0, n1⟩, hR, hO⟩
        have I4' : Hid _ := (I3.out.only hO (by omega))
        have R4' : Hid _ := (R3.out.only hO (by omega))
        have D4 : Hid (Rd w4 rb B (p + 1 + 1 + 1 + 1)) := hR
        have B4 : Hid (Bar rb w w4) := B3.out.trans (Bar.ofOnly hO)
        clear hR hO i0 i1 i2 i3 ifr r0 r1 r2 r3 rfr
        obtain ⟨⟨_, i0, i1, i2, i3⟩, ifr⟩ := I4'.out
        obtain ⟨⟨_, r0, r1, r2, r3⟩, rfr⟩ := R4'.out
        by_cases tn : 0 < n
        · go_wp2_with fail
          refine (pick rb B (p + 1 + 1 + 1 + 1) 4 w4 D4.out (by omega) (by omega) (by omega)).mono ?_
          rintro e w5 ⟨⟨x, rfl, x0, x1⟩, hR, hO⟩
          have R5' : Hid _ := (F4.only R4'.out hO (by omega))
          have D5 : Hid (Rd w5 rb B (p + 1 + 1 + 1 + 1 + 1)) := hR
          have B5 : Hid (Bar rb w w5) := B4.out.trans (Bar.ofOnly hO)
          clear hR hO i0 i1 i2 i3 ifr r0 r1 r2 r3 rfr
          go_wp2_with fail
          refine (pick rb B (p + 1 + 1 + 1 + 1 + 1) 4 w5 D5.out (by omega) (by omega) (by omega)).mono ?_
          rintro e w6 ⟨⟨y, rfl, y0, y1⟩, hR, hO⟩
          have R6 := (F4.only R5'.out hO (by omega))
          have D6 : Hid (Rd w6 rb B (p + 1 + 1 + 1 + 1 + 1 + 1)) := hR
          have B6 : Hid (Bar rb w w6) := B5.out.trans (Bar.ofOnly hO)
          clear hR hO
          obtain ⟨⟨_, r0, r1, r2, r3⟩, rfr⟩ := R6
          go_wp2
          refine bodyPost_ret (v := .agg #[.int .i64 4, .int .i64 x, .int .i64 y, .int .i64 0]) (by simp [results, Tryd.results83, go_sem, r0, r1, r2, r3]) rfl ⟨⟨4, x, y, 0, rfl, ?_⟩, ?_⟩
          · exact smq (by omega) (by omega) (by omega) (by omega)
          · have h := EN.out w6 _ D6.out B6.out (.int .i64 4) (.int .i64 x) (.int .i64 y) (.int .i64 0)
            exact ⟨⟨_, by omega, h.1⟩, h.2⟩
        · go_wp2
          refine bodyPost_ret (v := .agg #[.int .i64 k, .int .i64 0, .int .i64 0, .int .i64 0]) (by simp [results, Tryd.results83, go_sem, r0, r1, r2, r3]) rfl ⟨⟨k, 0, 0, 0, rfl, ?_⟩, ?_⟩
          · have := HK.out
            exact smq (by omega) (by omega) (by omega) (by omega)
          · have h := EN.out ((w4.setCell ⟨w3.heap.size, 1, none⟩ (.int .i64 0)).setCell ⟨w3.heap.size, 2, none⟩ (.int .i64 0)) _ ((D4.out.setCell (q := ⟨w3.heap.size, 1, none⟩) hIB _).setCell (q := ⟨w3.heap.size, 2, none⟩) hIB _) ((B4.out.setCell (p := ⟨w3.heap.size, 1, none⟩) hIw _).setCell (p := ⟨w3.heap.size, 2, none⟩) hIw _) (.int .i64 k) (.int .i64 0) (.int .i64 0) (.int .i64 0)
            exact ⟨⟨_, by omega, h.1⟩, h.2⟩
      | false =>
        go_wp2
        refine bodyPost_ret (v := .agg #[.int .i64 k, .int .i64 a, .int .i64 b, .int .i64 0]) (by simp [results, Tryd.results83, go_sem, r0, r1, r2, r3]) rfl ⟨⟨k, a, b, 0, rfl, ?_⟩, ?_⟩
        · have := HK.out; have := HA.out; have := HBb.out
          exact smq (by omega) (by omega) (by omega) (by omega)
        · have h := EN.out X _ D3.out B3.out (.int .i64 k) (.int .i64 a) (.int .i64 b) (.int .i64 0)
          exact ⟨⟨_, by omega, h.1⟩, h.2⟩
end Go.Proofs.YtokbakphfodabaaDoor.Own

namespace Go.Proofs.YtokbakphfodabaaDoor.Own
open Go.RowKit
set_option linter.unusedVariables false
set_option linter.unusedSimpArgs false

theorem flat4_one (xs : List Q4) : ∀ v ∈ flat4 xs, v.oneCell' = true := by
  intro v hv
  simp only [flat4, List.mem_flatMap] at hv
  obtain ⟨q, _, h⟩ := hv
  simp at h
  rcases h with rfl | rfl | rfl | rfl <;> rfl

theorem own_emptyQ (w : World) (N : Nat) (hN : w.heap.size = N) : (w.alloc (.cells #[] 142)).ownsRow N 142 4 (.slice (some ⟨N, 0, none⟩) 0 0) 0 [] := by
  subst hN
  exact ⟨rfl, .inr ⟨w.heap.size, 0, #[], rfl, Nat.le_refl _, heap_new _ _, Nat.le_refl _, by unfold maxLen; omega, rfl, rfl⟩⟩

/-- A reader's block alone, or a row's own, or new ones: what an append leaves. -/
theorem Bar.grown {rb : Nat} {a w w' : World} {row : Option Nat} (h : Bar rb a w) (hg : w.grownBy w' row) (hr : ∀ k, row = some k → a.heap.size ≤ k) : Bar rb a w' :=
  ⟨hg.os.trans h.os, hg.tape.trans h.tape, hg.output.trans h.output, Nat.le_trans h.size hg.size, fun k hk hn => by
    rw [hg.block k (Nat.lt_of_lt_of_le hk h.size) (fun e => by have := hr k e.symm; omega)]; exact h.block k hk hn⟩
theorem Rd.grown {w w' : World} {rb B p : Nat} {row : Option Nat} (h : Rd w rb B p) (hg : w.grownBy w' row) (hr : ∀ k, row = some k → B ≤ k) : Rd w' rb B p :=
  h.keep hg.size fun k hk => hg.block k (Nat.lt_of_lt_of_le hk h.2.1) (fun e => by have := hr k e.symm; omega)

theorem infoInsD : (Tryd.prog.info? 142).map (fun i => (i.zero, i.size, i.bytes)) = some (some (.agg #[.int .i64 0, .int .i64 0, .int .i64 0, .int .i64 0]), 4, 32) := by kernel_rfl

set_option maxRecDepth 100000 in
set_option maxHeartbeats 4000000 in
theorem l2Prog (rb B p : Nat) (w : World) (h : Rd w rb B p) (hp : p ≤ 2 ^ 29) :
    Calls Tryd.prog 61 #[.pointer (some ⟨rb, 0, none⟩)] w fun e w' => ∃ g cap xs, e = .returned (.slice (some ⟨g, 0, none⟩) xs.length cap) ∧ OwnQ w' w.heap.size (.slice (some ⟨g, 0, none⟩) xs.length cap) xs ∧ xs.length ≤ 7 ∧ Sm4 xs ∧ (∃ p', p' ≤ p + 100 ∧ Rd w' rb B p') ∧ Bar rb w w' := by
  have HR : Hid (Rd w rb B p) := h
  have hrb : rb < w.heap.size := Nat.lt_of_lt_of_le h.1 h.2.1
  have HBs : Hid (B ≤ w.heap.size) := h.2.1
  clear h
  go_enter Tryd.func61, Tryd.ntmps61
  go_wp2_with fail
  refine (pick rb B p 3 w HR.out (by omega) (by omega) (by omega)).mono ?_
  rintro e w1 ⟨⟨c, rfl, c0, c1⟩, hR, hO⟩
  have D1 : Hid (Rd w1 rb B (p + 1)) := hR
  have B1 : Hid (Bar rb w w1) := Bar.ofOnly hO
  clear hR hO
  cases t0 : (c == 0) with
  | true =>
    go_wp2_with fail
    refine (pick rb B (p + 1) 3 w1 D1.out (by omega) (by omega) (by omega)).mono ?_
    rintro e w2 ⟨⟨b, rfl, b0, b1⟩, hR, hO⟩
    have D2 : Hid (Rd w2 rb B (p + 1 + 1)) := hR
    have B2 : Hid (Bar rb w w2) := B1.out.trans (Bar.ofOnly hO)
    clear hR hO
    go_wp2_with fail
    refine (pick rb B (p + 1 + 1) 3 w2 D2.out (by omega) (by omega) (by omega)).mono ?_
    rintro e w3 ⟨⟨d, rfl, d0, d1⟩, hR, hO⟩
    have D3 : Hid (Rd w3 rb B (p + 1 + 1 + 1)) := hR
    have B3 : Hid (Bar rb w w3) := B2.out.trans (Bar.ofOnly hO)
    clear hR hO
    go_wp2_with fail
    refine (pick rb B (p + 1 + 1 + 1) 3 w3 D3.out (by omega) (by omega) (by omega)).mono ?_
    rintro e w4 ⟨⟨n, rfl, n0, n1⟩, hR, hO⟩
    have D4 : Hid (Rd w4 rb B (p + 1 + 1 + 1 + 1)) := hR
    have B4 : Hid (Bar rb w w4) := B3.out.trans (Bar.ofOnly hO)
    clear hR hO
    go_wp2
    go_ret
    refine ⟨w4.heap.size, 4, [(1, 0, b, 0), (3, 1, 0, 1 + n), (4, 0, 1, 0), (2, d, 0, 0)], rfl, ⟨rfl, .inr ⟨_, 4, _, rfl, B4.out.size, heap_new _ _, Nat.le_refl _, by unfold maxLen; decide, rfl, rfl⟩⟩, by simp, ?_, ⟨_, by omega, D4.out.alloc _⟩, B4.out.alloc _⟩
    intro k hk
    have : k < 4 := hk
    match k, this with
    | 0, _ => exact smq (by omega) (by omega) (by omega) (by omega)
    | 1, _ => exact smq (by omega) (by omega) (by omega) (by omega)
    | 2, _ => exact smq (by omega) (by omega) (by omega) (by omega)
    | 3, _ => exact smq (by omega) (by omega) (by omega) (by omega)
  | false =>
    go_wp2_with fail
    refine (pick rb B (p + 1) 8 _ (D1.out.alloc _) (by omega) (by omega) (by omega)).mono ?_
    rintro e w2 ⟨⟨m, rfl, m0, m1⟩, hR, hO⟩
    obtain ⟨m, rfl⟩ := Int.eq_ofNat_of_zero_le m0
    have OW : Hid (OwnQ w2 w.heap.size (.slice (some ⟨w1.heap.size, 0, none⟩) 0 0) []) := by
      have h : OwnQ (w1.alloc (.cells #[] 142)) w.heap.size (.slice (some ⟨w1.heap.size, 0, none⟩) 0 0) [] := OwnQ.lower (own_emptyQ w1 w1.heap.size rfl) B1.out.size
      exact h.bar2 (Bar.ofOnly hO) hrb
    have D2 : Hid (Rd w2 rb B (p + 1 + 1)) := hR
    have B2 : Hid (Bar rb w w2) := (B1.out.alloc _).trans (Bar.ofOnly hO)
    clear hR hO m0
    go_wp2_with fail
    go_loopw [5, 6] (fun v i wr => ∃ j g cap xs, j ≤ m ∧ i = .int .i64 (j : Nat) ∧ v = .slice (some ⟨g, 0, none⟩) xs.length cap ∧ OwnQ wr w.heap.size (.slice (some ⟨g, 0, none⟩) xs.length cap) xs ∧ xs.length + j = m ∧ Sm4 xs ∧ (∃ p', p' ≤ p + 2 + 10 * xs.length ∧ Rd wr rb B p') ∧ Bar rb w wr) (fun _ i _ => (intOf i).toNat)
    case atStart => exact ⟨m, w1.heap.size, 0, [], Nat.le_refl _, rfl, rfl, OW.out, by simp, Sm4.nil, ⟨_, by omega, D2.out⟩, B2.out⟩
    case round =>
      clear OW D2 B2
      obtain ⟨j, g, cap, xs, hj, rfl, rfl, hown, hxl, hsm, ⟨p', hp', hrd⟩, hbar⟩ := hrel
      have OW : Hid (OwnQ wr w.heap.size (.slice (some ⟨g, 0, none⟩) xs.length cap) xs) := hown
      have SM : Hid (Sm4 xs) := hsm
      have D2 : Hid (Rd wr rb B p') := hrd
      have B2 : Hid (Bar rb w wr) := hbar
      clear hown hsm hrd hbar
      by_cases hlt : 0 < j
      · obtain ⟨i0, hi, hz0, hz1, hz2⟩ := info_parts infoInsD
        have I0 : Hid (Tryd.prog.info? 142 = some i0 ∧ i0.zero = some (.agg #[.int .i64 0, .int .i64 0, .int .i64 0, .int .i64 0]) ∧ i0.size = 4 ∧ i0.bytes = 32) := ⟨hi, hz0, hz1, hz2⟩
        clear hi hz0 hz1 hz2
        go_wp2_with fail
        refine (l2Any rb B p' wr D2.out (by omega)).mono ?_
        rintro e w3 ⟨⟨k, a, b, n, rfl, hq⟩, ⟨p3, hp3, hrd⟩, hbar⟩
        have OW3 : Hid (OwnQ w3 w.heap.size (.slice (some ⟨g, 0, none⟩) xs.length cap) xs) := OW.out.bar2 hbar hrb
        have HQ : Hid (SmQ (k, a, b, n)) := hq
        have D3 : Hid (Rd w3 rb B p3) := hrd
        have B3 : Hid (Bar rb w w3) := B2.out.trans hbar
        clear hq hrd hbar
        go_wp2_with (at_builtin; refine wpList_append_lies _ rfl (.tmp 31) (.tmp 34) 108 rfl w.heap.size 142 i0 (.agg #[.int .i64 0, .int .i64 0, .int .i64 0, .int .i64 0]) 4 32 Tryd.underlying108 I0.out.1 I0.out.2.1 I0.out.2.2.1 I0.out.2.2.2 rfl (by decide) (.slice (some ⟨g, 0, none⟩) xs.length cap) xs.length (flat4 xs) rfl (OwnQ.keep OW3.out (below_new _ _)) ⟨w3.heap.size, 0, none⟩ 1 1 [.int .i64 k, .int .i64 a, .int .i64 b, .int .i64 n] rfl rfl (four_new _ _ _ _ _) (by simp [Value.oneCell']) (by decide) (by unfold maxLen; omega) (by omega) (by have := B3.out.size; rw [size_new]; omega) (w3.heap.size + 1) (size_new _ _) ?_)
        intro g4 cap4 w4 hown4 hgr hloc hg4
        have OW4 : Hid (OwnQ w4 w.heap.size (.slice (some ⟨g4, 0, none⟩) (xs ++ [(k, a, b, n)]).length cap4) (xs ++ [(k, a, b, n)])) := by
          show OwnQ _ _ _ _
          unfold OwnQ
          rw [List.length_append, flat4_snoc]
          exact hown4
        have hbk : w.heap.size ≤ g := by
          obtain ⟨_, h2⟩ := OW3.out
          rcases h2 with ⟨hv, _⟩ | ⟨g', _, _, hv, hg, _⟩
          · cases hv
          · injection hv with e1; injection e1 with e1; injection e1 with e1; omega
        have D4 : Hid (Rd w4 rb B p3) := (D3.out.alloc _).grown hgr (fun k hk => by simp only [Value.ownBlock] at hk; injection hk with hk; have := HBs.out; omega)
        have B4 : Hid (Bar rb w w4) := (B3.out.alloc _).grown hgr (fun k hk => by simp only [Value.ownBlock] at hk; injection hk with hk; omega)
        clear hown4 hgr hloc hg4 hbk
        go_wp2
        go_roundw
        case rel => exact ⟨j - 1, g4, cap4, xs ++ [(k, a, b, n)], by omega, by go_num, by simp, OW4.out, by simp; omega, SM.out.snoc HQ.out, ⟨_, by simp; omega, D4.out⟩, B4.out⟩
        case measure => simp [intOf]; omega
      · go_wp2
        go_ret
        exact ⟨g, cap, xs, rfl, OW.out, by omega, SM.out, ⟨_, by omega, D2.out⟩, B2.out⟩
end Go.Proofs.YtokbakphfodabaaDoor.Own

namespace Go.Proofs.YtokbakphfodabaaDoor.Own
open Go.RowKit
set_option linter.unusedVariables false
set_option linter.unusedSimpArgs false

theorem OwnP.ownC {t : TypeId} {w : World} {B : Nat} {v : Value} {xs : List P2} (h : OwnP t w B v xs) :
    ∃ a cap, v = .slice a xs.length cap ∧ OwnB w B a xs ∧ (∀ x, a = some x → v.ownBlock = some x.block ∧ B ≤ x.block ∧ x.block < w.heap.size) ∧ xs.length ≤ cap := by
  obtain ⟨a, cap, hv, _, hc, _, _⟩ := h.open
  obtain ⟨a', cap', hv', hs, hb⟩ := h.ownB
  have e : a = a' ∧ cap = cap' := by rw [hv] at hv'; injection hv' with e1 e2 e3; exact ⟨e1, e3⟩
  obtain ⟨rfl, rfl⟩ := e
  exact ⟨a, cap, hv, hs, hb, hc⟩
theorem RunPost.open2 {o : RunOut} {B : Nat} {e : Ending} {w : World} (h : RunPost o B e w) : ∃ a1 c1 a2 c2, e = .returned (.agg #[.slice a1 o.reads.length c1, .slice a2 o.puts.length c2, .int .i64 o.val, .int .i64 o.code]) ∧ RunB o B w a1 a2 ∧ o.reads.length ≤ c1 ∧ o.puts.length ≤ c2 := by
  obtain ⟨rv, pv, rfl, hr, hp, ha⟩ := h
  obtain ⟨a1, c1, e1, o1, f1, k1⟩ := hr.ownC
  obtain ⟨a2, c2, e2, o2, f2, k2⟩ := hp.ownC
  refine ⟨a1, c1, a2, c2, by rw [e1, e2], ⟨o1, o2, .inr (.inr fun g g' eg eg' e => ?_), fun x e => (f1 x e).2, fun x e => (f2 x e).2⟩, k1, k2⟩
  have h1 := (f1 _ eg).1
  have h2 := (f2 _ eg').1
  rcases ha with h | h
  · rw [h] at h1; cases h1
  · exact h (by rw [h1, h2, e])
theorem RunB.one {o : RunOut} {B : Nat} {w : World} {a1 a2 : Option Addr} (h : RunB o B w a1 a2) {c1 c2 : Nat} (k1 : o.reads.length ≤ c1) (k2 : o.puts.length ≤ c2) (z : Int) (n : Bool) (p q v k : Int) : OneOwn w B ⟨z, ⟨n, p, q, o.reads, o.puts, v, k⟩, a1, c1, a2, c2⟩ := by
  have f : ∀ (a : Option Addr) (m b : Nat), blkOf a m = some b → ∃ x, a = some x ∧ x.block = b := fun a m b e => by
    unfold blkOf at e
    split at e
    · cases e
    · simpa using e
  refine ⟨h.reads, h.puts, k1, k2, fun b e => ?_, fun b e => ?_, fun b e e2 => ?_⟩
  · obtain ⟨x, ex, rfl⟩ := f _ _ _ e; exact h.far1 x ex
  · obtain ⟨x, ex, rfl⟩ := f _ _ _ e; exact h.far2 x ex
  · rcases h.apart with h0 | h0 | h0
    · simp [blk1, blkOf, h0] at e
    · simp [blk2, blkOf, h0] at e2
    · obtain ⟨x, ex, hx⟩ := f _ _ _ e
      obtain ⟨y, ey, hy⟩ := f _ _ _ e2
      rcases h.reads with r | ⟨g, rfl, _, _⟩
      · simp [blk1, blkOf, r] at e
      · rcases h.puts with r | ⟨g', rfl, _, _⟩
        · simp [blk2, blkOf, r] at e2
        · injection ex with ex
          injection ey with ey
          exact h0 g g' rfl rfl (by rw [← ex] at hx; rw [← ey] at hy; simp only at hx hy; omega)
end Go.Proofs.YtokbakphfodabaaDoor.Own

namespace Go.Proofs.YtokbakphfodabaaDoor.Own
open Go.RowKit
set_option linter.unusedVariables false
set_option linter.unusedSimpArgs false

/-- An entry on its way: in block eb, its lists of one's own. -/
def AnyCut (rb B r0 : Nat) (w w5 : World) (lo : Nat) (R : RunOut) (a1 a2 : Option Addr) (d1 d2 : Nat) (wx : World) : Prop :=
  ∃ n p q k p', (Fits p ∧ Fits q ∧ Fits k) ∧ Blk wx w5.heap.size #[.bool n, .int .i64 p, .int .i64 q, .slice a1 R.reads.length d1, .slice a2 R.puts.length d2, .int .i64 R.val, .int .i64 k] 34 ∧ Blk wx w.heap.size #[.bool false, .int .i64 0, .int .i64 0, .slice none 0 0, .slice none 0 0, .int .i64 0, .int .i64 0] 34 ∧ OneOwn wx lo ⟨0, ⟨false, 0, 0, R.reads, R.puts, R.val, R.code⟩, a1, d1, a2, d2⟩ ∧ p' ≤ r0 + 200 ∧ Rd wx rb B p' ∧ Bar rb w wx
theorem OneOwn.as {w : World} {B : Nat} {xs ys : List P2} {a1 a2 : Option Addr} {d1 d2 : Nat} {z p q v k : Int} {n : Bool} (h : OneOwn w B ⟨z, ⟨n, p, q, xs, ys, v, k⟩, a1, d1, a2, d2⟩) (z' p' q' v' k' : Int) (n' : Bool) : OneOwn w B ⟨z', ⟨n', p', q', xs, ys, v', k'⟩, a1, d1, a2, d2⟩ :=
  ⟨h.l1, h.l2, h.c1, h.c2, h.b1, h.b2, h.ap⟩
/-- The numbers of an entry fit. -/
def FitsE (e : EB) : Prop := (Fits e.p ∧ Fits e.q ∧ Fits e.k) ∧ Fits e.v ∧ okAll verOk e.xs = true ∧ okAll numOk e.ys = true
/-- An entry that was drawn: its lists of one's own, at most four boxes each. -/
def AnyE (w : World) (B : Nat) (y : VM) : Prop := OneOwn w B y ∧ (y.b.xs.length ≤ 4 ∧ y.b.ys.length ≤ 4) ∧ FitsE y.b
theorem run_fits (bs : List P2) (xs : List Q4) : Fits (execRun bs xs).val ∧ Fits (execRun bs xs).code ∧ okAll verOk (execRun bs xs).reads = true ∧ okAll numOk (execRun bs xs).puts = true := by
  have h := execRun_ok bs xs
  refine ⟨?_, ?_, execOk_reads h, execOk_puts h⟩ <;>
  · simp only [execOk, Bool.and_eq_true] at h
    have h := h.1.1
    unfold endOk at h
    unfold Fits
    split at h
    · next e => simp [numOk] at h; omega
    · split at h
      · next e => simp at h; omega
      · split at h
        · next e => simp at h; omega
        · cases h

theorem Blk.only1 {w w' : World} {b c : Nat} {C : Array Value} {t : TypeId} (h : Blk w b C t) (ho : Only c w w') (hc : b ≠ c) : Blk w' b C t := by
  unfold Blk at *
  rw [ho.block b hc]; exact h
theorem Blk.bar1 {w w' : World} {b c : Nat} {C : Array Value} {t : TypeId} (h : Blk w b C t) (ho : Bar c w w') (hc : b ≠ c) : Blk w' b C t := by
  have := h.lt
  unfold Blk at *
  rw [ho.block b this hc]; exact h
theorem Blk.set7 {w : World} {b : Nat} {y0 y1 y2 y3 y4 y5 y6 : Value} {t : TypeId} (h : Blk w b #[y0, y1, y2, y3, y4, y5, y6] t) (x0 x1 x2 x3 x4 x5 x6 : Value) :
    Blk (((((((w.setCell ⟨b, 0, none⟩ x0).setCell ⟨b, 1, none⟩ x1).setCell ⟨b, 2, none⟩ x2).setCell ⟨b, 3, none⟩ x3).setCell ⟨b, 4, none⟩ x4).setCell ⟨b, 5, none⟩ x5).setCell ⟨b, 6, none⟩ x6) b #[x0, x1, x2, x3, x4, x5, x6] t :=
  (((((((h.set 0 x0).set 1 x1).set 2 x2).set 3 x3).set 4 x4).set 5 x5).set 6 x6).eq (by simp)
/-- Seven stores into one block. -/
def W7 (w : World) (b : Nat) (x0 x1 x2 x3 x4 x5 x6 : Value) : World := ((((((w.setCell ⟨b, 0, none⟩ x0).setCell ⟨b, 1, none⟩ x1).setCell ⟨b, 2, none⟩ x2).setCell ⟨b, 3, none⟩ x3).setCell ⟨b, 4, none⟩ x4).setCell ⟨b, 5, none⟩ x5).setCell ⟨b, 6, none⟩ x6
theorem W7.only (w : World) (b : Nat) (x0 x1 x2 x3 x4 x5 x6 : Value) : Only b w (W7 w b x0 x1 x2 x3 x4 x5 x6) :=
  (((((((Only.refl b w).setCell _).setCell _).setCell _).setCell _).setCell _).setCell _).setCell _
theorem Rd.w7 {w : World} {rb B p : Nat} (h : Rd w rb B p) {b : Nat} (hb : B ≤ b) (x0 x1 x2 x3 x4 x5 x6 : Value) : Rd (W7 w b x0 x1 x2 x3 x4 x5 x6) rb B p :=
  h.keep (Nat.le_of_eq (W7.only w b x0 x1 x2 x3 x4 x5 x6).size.symm) fun k hk => (W7.only w b x0 x1 x2 x3 x4 x5 x6).block k (by omega)
theorem Bar.w7 {a w : World} {rb : Nat} (h : Bar rb a w) {b : Nat} (hb : a.heap.size ≤ b) (x0 x1 x2 x3 x4 x5 x6 : Value) : Bar rb a (W7 w b x0 x1 x2 x3 x4 x5 x6) := by
  have o := W7.only w b x0 x1 x2 x3 x4 x5 x6
  exact ⟨o.os.trans h.os, o.tape.trans h.tape, o.output.trans h.output, Nat.le_trans h.size (Nat.le_of_eq o.size.symm), fun k hk hn => by rw [o.block k (by omega)]; exact h.block k hk hn⟩
theorem OneOwn.only {w w' : World} {B c : Nat} {y : VM} (h : OneOwn w B y) (ho : Only c w w') (hc : c < B) : OneOwn w' B y :=
  h.blkV (Nat.le_of_eq ho.size.symm) fun b hb => ho.block b (by rcases hb with hb | hb; · have := (h.b1 b hb).1; omega
                                                                · have := (h.b2 b hb).1; omega)
theorem OneOwn.allocV {w : World} {B : Nat} {y : VM} (h : OneOwn w B y) (o : Obj) : OneOwn (w.alloc o) B y :=
  h.blkV (by rw [size_new]; omega) fun b hb => heap_old w o b (by rcases hb with hb | hb; · exact (h.b1 b hb).2
                                                                  · exact (h.b2 b hb).2)
theorem OneOwn.off {w w' : World} {B c : Nat} {y : VM} (h : OneOwn w B y) (ho : Only c w w') (hc : ∀ b, (blk1 y = some b ∨ blk2 y = some b) → b ≠ c) : OneOwn w' B y :=
  h.blkV (Nat.le_of_eq ho.size.symm) fun b hb => ho.block b (hc b hb)
theorem OneOwn.nothing (w : World) (B : Nat) (z : Int) (n : Bool) (p q v k : Int) : OneOwn w B ⟨z, ⟨n, p, q, [], [], v, k⟩, .none, 0, .none, 0⟩ :=
  ⟨.inl rfl, .inl rfl, Nat.le_refl _, Nat.le_refl _, fun b e => by simp [blk1, blkOf] at e, fun b e => by simp [blk2, blkOf] at e, fun b e => by simp [blk1, blkOf] at e⟩
theorem Sl.bar {w w' : World} {rb : Nat} {a : Option Addr} {xs : List P2} (h : Sl w a xs) (hb : Bar rb w w') (hn : ∀ x, a = some x → xs ≠ [] → x.block ≠ rb) : Sl w' a xs := by
  rcases h with h | ⟨b, off, rfl, h⟩
  · exact .inl h
  · by_cases he : xs = []
    · exact .inl he
    · exact .inr ⟨b, off, rfl, hb.at h (hn _ rfl he)⟩

set_option maxRecDepth 100000 in
set_option maxHeartbeats 2000000 in
theorem l5Any (rb B r0 : Nat) (la : Option Addr) (lc : Nat) (bs : List P2) (w : World) (h : Rd w rb B r0) (hp : r0 ≤ 2 ^ 28) (hb : Sl w la bs) (hn : ∀ x, la = some x → bs ≠ [] → x.block ≠ rb) (l1 : bs.length ≤ 2 ^ 40) :
    Calls Tryd.prog 33 #[.pointer (some ⟨rb, 0, none⟩), .slice la bs.length lc] w fun e w' => ∃ y : VM, e = .returned (.agg y.ecells) ∧ AnyE w' w.heap.size y ∧ (∃ p', p' ≤ r0 + 200 ∧ Rd w' rb B p') ∧ Bar rb w w' := by
  have HB : Hid (Sl w la bs) := hb
  have HN : Hid (∀ x, la = some x → bs ≠ [] → x.block ≠ rb) := hn
  have hrb : rb < w.heap.size := Nat.lt_of_lt_of_le h.1 h.2.1
  have HBs : Hid (B ≤ w.heap.size) := h.2.1
  obtain ⟨Z, hZ⟩ : ∃ Z, Z = w.alloc (.cells #[.bool false, .int .i64 0, .int .i64 0, .slice none 0 0, .slice none 0 0, .int .i64 0, .int .i64 0] 34) := ⟨_, rfl⟩
  have BZ : Hid (Below w.heap.size w Z) := by show Below _ _ _; rw [hZ]; exact (Below.refl _ _).alloc (Nat.le_refl _) _
  have ZB : Hid (Blk Z w.heap.size #[.bool false, .int .i64 0, .int .i64 0, .slice none 0 0, .slice none 0 0, .int .i64 0, .int .i64 0] 34) := by show Blk _ _ _ _; rw [hZ]; exact Blk.new _ _ _
  have DZ : Hid (Rd Z rb B r0) := by show Rd _ _ _ _; rw [hZ]; exact h.alloc _
  have HZ : Hid (Z = _) := hZ
  clear h hb hn hZ
  go_enter Tryd.func33, Tryd.ntmps33
  go_upto_region 1 with fail
  rw [← HZ.out]
  go_wp2_with fail
  refine (pick rb B r0 8 Z DZ.out (by omega) (by omega) (by omega)).mono ?_
  rintro e w1 ⟨⟨c0, rfl, _, _⟩, hR, hO⟩
  have D1 : Hid (Rd w1 rb B (r0 + 1)) := hR
  have A1 : Hid (Bar rb w w1) := (Bar.ofBelow BZ.out).trans (Bar.ofOnly hO)
  have Z1 : Hid (Blk w1 w.heap.size #[.bool false, .int .i64 0, .int .i64 0, .slice none 0 0, .slice none 0 0, .int .i64 0, .int .i64 0] 34) := by
    show Blk _ _ _ _
    unfold Blk
    rw [hO.block _ (by omega)]; exact ZB.out
  clear hR hO
  cases t0 : (c0 == 0) with
  | true =>
    obtain ⟨z0, z1, z2, z3, z4, z5, z6⟩ := Z1.out.cells7
    have fz := Z1.out.frozen
    go_wp2_with fail
    obtain ⟨d0, d1, d2, d3, d4, d5, d6⟩ := (Z1.out.set7 (.bool true) (.int .i64 0) (.int .i64 0) (.slice none 0 0) (.slice none 0 0) (.int .i64 0) (.int .i64 0)).cells7
    refine bodyPost_ret (v := .agg #[.bool true, .int .i64 0, .int .i64 0, .slice none 0 0, .slice none 0 0, .int .i64 0, .int .i64 0]) (by simp [results, Tryd.results33, go_sem, d0, d1, d2, d3, d4, d5, d6]) rfl ?_
    exact ⟨⟨0, ⟨true, 0, 0, [], [], 0, 0⟩, none, 0, none, 0⟩, rfl, ⟨OneOwn.nothing _ _ _ _ _ _ _ _, ⟨Nat.zero_le _, Nat.zero_le _⟩, ⟨by simp [Fits], by simp [Fits], by simp [Fits]⟩, by simp [Fits], rfl, rfl⟩, ⟨r0 + 1, by omega, D1.out.w7 HBs.out _ _ _ _ _ _ _⟩, A1.out.w7 (Nat.le_refl _) _ _ _ _ _ _ _⟩
  | false =>
    go_wp2_with fail
    refine (pick rb B (r0 + 1) 3 w1 D1.out (by omega) (by omega) (by omega)).mono ?_
    rintro e w2 ⟨⟨c1, rfl, u1, u2⟩, hR, hO⟩
    have C1 : Hid (0 ≤ c1 ∧ c1 < 3) := ⟨u1, u2⟩
    have D2 : Hid (Rd w2 rb B (r0 + 1 + 1)) := hR
    have A2 : Hid (Bar rb w w2) := A1.out.trans (Bar.ofOnly hO)
    have Z2 : Hid (Blk w2 w.heap.size #[.bool false, .int .i64 0, .int .i64 0, .slice none 0 0, .slice none 0 0, .int .i64 0, .int .i64 0] 34) := Z1.out.only1 hO (by omega)
    clear hR hO Z1 A1 D1
    go_wp2_with fail
    refine (pick rb B (r0 + 1 + 1) 6 w2 D2.out (by omega) (by omega) (by omega)).mono ?_
    rintro e w3 ⟨⟨c2, rfl, u1, u2⟩, hR, hO⟩
    have C2 : Hid (0 ≤ c2 ∧ c2 < 6) := ⟨u1, u2⟩
    have D3 : Hid (Rd w3 rb B (r0 + 1 + 1 + 1)) := hR
    have A3 : Hid (Bar rb w w3) := A2.out.trans (Bar.ofOnly hO)
    have Z3 : Hid (Blk w3 w.heap.size #[.bool false, .int .i64 0, .int .i64 0, .slice none 0 0, .slice none 0 0, .int .i64 0, .int .i64 0] 34) := Z2.out.only1 hO (by omega)
    clear hR hO Z2 A2 D2
    go_wp2_with fail
    refine (l2Prog rb B (r0 + 1 + 1 + 1) w3 D3.out (by omega)).mono ?_
    rintro e w4 ⟨g, cap, xs, rfl, hq, hl, _, ⟨p4, hp4, hR⟩, hbr⟩
    have D4 : Hid (Rd w4 rb B p4) := hR
    have A4 : Hid (Bar rb w w4) := A3.out.trans hbr
    have Z4 : Hid (Blk w4 w.heap.size #[.bool false, .int .i64 0, .int .i64 0, .slice none 0 0, .slice none 0 0, .int .i64 0, .int .i64 0] 34) := Z3.out.bar1 hbr (by omega)
    have Q4' : Hid (Sl4 w4 (some ⟨g, 0, none⟩) xs) := by
      obtain ⟨a, c, e, s, _⟩ := hq.open
      injection e with e1 e2 e3
      rw [e1]; exact s
    clear hR hq hbr Z3 A3 D3
    have B4 : Hid (Sl w4 la bs) := Sl.bar HB.out A4.out HN.out
    go_wp2_with fail
    refine (specRun la (some ⟨g, 0, none⟩) lc cap bs xs w4 B4.out Q4'.out l1 (by omega)).mono ?_
    rintro e w5 ⟨hrun, hb5⟩
    have F := execRun_four bs xs
    have G := run_fits bs xs
    obtain ⟨a1, d1, a2, d2, rfl, hown, k1, k2⟩ := hrun.open2
    have D5 : Hid (Rd w5 rb B p4) := D4.out.below hb5
    have A5 : Hid (Bar rb w w5) := A4.out.trans (Bar.ofBelow hb5)
    have Z5 : Hid (Blk w5 w.heap.size #[.bool false, .int .i64 0, .int .i64 0, .slice none 0 0, .slice none 0 0, .int .i64 0, .int .i64 0] 34) := Z4.out.keep hb5
    have OWN : Hid (RunB (execRun bs xs) w4.heap.size w5 a1 a2) := hown
    have L4 : Hid (w.heap.size < w4.heap.size) := Z4.out.lt
    have S45 : Hid (w.heap.size ≤ w4.heap.size ∧ w4.heap.size ≤ w5.heap.size) := ⟨A4.out.size, hb5.size⟩
    clear hown hb5 hrun Z4 A4 D4 Q4' B4
    have R5 : Hid (∃ R, R = execRun bs xs) := ⟨_, rfl⟩
    obtain ⟨R, hR5⟩ := R5.out
    rw [← hR5] at F G k1 k2 OWN ⊢
    have GG : Hid (Fits R.val ∧ Fits R.code ∧ okAll verOk R.reads = true ∧ okAll numOk R.puts = true) := G
    have P1 : Hid (Fits c1 ∧ Fits (1 + c2)) := by
      have h1 := C1.out
      have h2 := C2.out
      exact ⟨by unfold Fits; omega, by unfold Fits; omega⟩
    have KK : Hid (R.reads.length ≤ d1 ∧ R.puts.length ≤ d2 ∧ R.reads.length ≤ 4 ∧ R.puts.length ≤ 4) := ⟨k1, k2, F⟩
    clear hR5 F G k1 k2 R5 C1 C2
    have YY : Hid (OneOwn w5 w4.heap.size ⟨0, ⟨false, 0, 0, R.reads, R.puts, R.val, R.code⟩, a1, d1, a2, d2⟩) := OWN.out.one KK.out.1 KK.out.2.1 0 false 0 0 R.val R.code
    clear OWN
    go_wp2_with fail
    refine (pick rb B p4 40 _ (D5.out.alloc _) (by omega) (by omega) (by omega)).mono ?_
    rintro e w6 ⟨⟨c3, rfl, _, _⟩, hR, hO⟩
    have D6 : Hid (Rd w6 rb B (p4 + 1)) := hR
    have S56 : Hid (w5.heap.size < w6.heap.size) := by show _ < _; rw [hO.size, size_new]; omega
    have A6 : Hid (Bar rb w w6) := (A5.out.alloc _).trans (Bar.ofOnly hO)
    have Z6 : Hid (Blk w6 w.heap.size #[.bool false, .int .i64 0, .int .i64 0, .slice none 0 0, .slice none 0 0, .int .i64 0, .int .i64 0] 34) := (Z5.out.alloc _).only1 hO (by omega)
    have E6 : Hid (Blk w6 w5.heap.size #[.bool false, .int .i64 c1, .int .i64 (1 + c2), .slice a1 R.reads.length d1, .slice a2 R.puts.length d2, .int .i64 R.val, .int .i64 R.code] 34) := (Blk.new w5 _ _).only1 hO (by have := S45.out; omega)
    have Y6 : Hid (OneOwn w6 w4.heap.size ⟨0, ⟨false, 0, 0, R.reads, R.puts, R.val, R.code⟩, a1, d1, a2, d2⟩) := (YY.out.allocV _).only hO (by have := S45.out; omega)
    have F6 : Hid (∀ b, (blk1 ⟨0, ⟨false, 0, 0, R.reads, R.puts, R.val, R.code⟩, a1, d1, a2, d2⟩ = some b ∨ blk2 ⟨0, ⟨false, 0, 0, R.reads, R.puts, R.val, R.code⟩, a1, d1, a2, d2⟩ = some b) → b ≠ w5.heap.size) := by
      intro b hb
      have : b < w5.heap.size := by
        rcases hb with hb | hb
        · exact (YY.out.b1 b hb).2
        · exact (YY.out.b2 b hb).2
      omega
    have NE : Hid (w.heap.size ≠ w5.heap.size) := by have := S45.out; have := Z5.out.lt; show _ ≠ _; omega
    have GE : Hid (w.heap.size ≤ w5.heap.size) := Nat.le_trans S45.out.1 S45.out.2
    clear hR hO D5 A5 Z5 YY
    go_upto_block 0 with fail
    go_cut [] from 23 to 36 (fun wx => AnyCut rb B r0 w w5 w4.heap.size R a1 a2 d1 d2 wx)
    case first =>
      cases t1 : (c3 == 0) with
      | true =>
        go_wp2_with fail
        refine (num rb B (p4 + 1) w6.heap.size 2 2 [0, 1001] _ (D6.out.alloc _) (by omega) (nums_newQ _ _ _ _ rfl) rfl (by omega) (by omega) (by have := A6.out.size; omega)).mono ?_
        rintro e w7 ⟨⟨c4, rfl, u1⟩, hR, hO⟩
        have C4 : Hid (Fits c4) := by
          show Fits _
          simp at u1
          unfold Fits
          omega
        clear u1
        have D7 : Hid (Rd w7 rb B (p4 + 1 + 1)) := hR
        have A7 : Hid (Bar rb w w7) := (A6.out.alloc _).trans (Bar.ofOnly hO)
        have Z7 : Hid (Blk w7 w.heap.size #[.bool false, .int .i64 0, .int .i64 0, .slice none 0 0, .slice none 0 0, .int .i64 0, .int .i64 0] 34) := (Z6.out.alloc _).only1 hO (by omega)
        have E7 : Hid (Blk w7 w5.heap.size #[.bool false, .int .i64 c1, .int .i64 (1 + c2), .slice a1 R.reads.length d1, .slice a2 R.puts.length d2, .int .i64 R.val, .int .i64 R.code] 34) := (E6.out.alloc _).only1 hO (by have := GE.out; omega)
        have Y7 : Hid (OneOwn w7 w4.heap.size ⟨0, ⟨false, 0, 0, R.reads, R.puts, R.val, R.code⟩, a1, d1, a2, d2⟩) := (Y6.out.allocV _).only hO (by have := S45.out; omega)
        clear hR hO D6 A6 Z6 E6 Y6
        obtain ⟨e0, e1, e2, e3, e4, e5, e6⟩ := E7.out.cells7
        have fe := E7.out.frozen
        go_wp2_with fail
        go_meet
        exact ⟨false, c1, c4, R.code, p4 + 1 + 1, ⟨P1.out.1, C4.out, GG.out.2.1⟩, (E7.out.set 2 _).eq (by simp), Z7.out.other NE.out _ _, Y7.out.off ((Only.refl _ _).setCell _) F6.out, by omega, D7.out.setCell (Nat.le_trans HBs.out GE.out) _, A7.out.setCell GE.out _⟩
      | false =>
        cases t2 : (c3 == 1) with
        | true =>
          obtain ⟨e0, e1, e2, e3, e4, e5, e6⟩ := E6.out.cells7
          have fe := E6.out.frozen
          go_wp2_with fail
          go_meet
          exact ⟨true, c1, 1 + c2, R.code, p4 + 1, ⟨P1.out.1, P1.out.2, GG.out.2.1⟩, (E6.out.set 0 _).eq (by simp), Z6.out.other NE.out _ _, Y6.out.off ((Only.refl _ _).setCell _) F6.out, by omega, D6.out.setCell (Nat.le_trans HBs.out GE.out) _, A6.out.setCell GE.out _⟩
        | false =>
          cases t3 : (c3 == 2) with
          | true =>
            obtain ⟨e0, e1, e2, e3, e4, e5, e6⟩ := E6.out.cells7
            have fe := E6.out.frozen
            go_wp2_with fail
            go_meet
            exact ⟨false, c1, 1 + c2, 3, p4 + 1, ⟨P1.out.1, P1.out.2, by simp [Fits]⟩, (E6.out.set 6 _).eq (by simp), Z6.out.other NE.out _ _, Y6.out.off ((Only.refl _ _).setCell _) F6.out, by omega, D6.out.setCell (Nat.le_trans HBs.out GE.out) _, A6.out.setCell GE.out _⟩
          | false =>
            go_wp2_with fail
            go_meet
            exact ⟨false, c1, 1 + c2, R.code, p4 + 1, ⟨P1.out.1, P1.out.2, GG.out.2.1⟩, E6.out, Z6.out, Y6.out, by omega, D6.out, A6.out⟩
    case rest =>
      clear Z6 E6 Y6 D6 A6
      obtain ⟨n, p, q, k, p', hF, hE, hZ, hY, hp', hD, hA⟩ := hcut
      have E6 : Hid (Blk wc w5.heap.size #[.bool n, .int .i64 p, .int .i64 q, .slice a1 R.reads.length d1, .slice a2 R.puts.length d2, .int .i64 R.val, .int .i64 k] 34) := hE
      have Z6 : Hid (Blk wc w.heap.size #[.bool false, .int .i64 0, .int .i64 0, .slice none 0 0, .slice none 0 0, .int .i64 0, .int .i64 0] 34) := hZ
      have Y6 : Hid (OneOwn wc w4.heap.size ⟨0, ⟨false, 0, 0, R.reads, R.puts, R.val, R.code⟩, a1, d1, a2, d2⟩) := hY
      have D6 : Hid (Rd wc rb B p') := hD
      have A6 : Hid (Bar rb w wc) := hA
      have F6' : Hid (Fits p ∧ Fits q ∧ Fits k) := hF
      clear hE hZ hY hD hA hF
      obtain ⟨e0, e1, e2, e3, e4, e5, e6⟩ := E6.out.cells7
      obtain ⟨z0, z1, z2, z3, z4, z5, z6⟩ := Z6.out.cells7
      have fz := Z6.out.frozen
      go_wp2_with fail
      obtain ⟨d0, d1', d2', d3, d4, d5, d6⟩ := (Z6.out.set7 (.bool n) (.int .i64 p) (.int .i64 q) (.slice a1 R.reads.length d1) (.slice a2 R.puts.length d2) (.int .i64 R.val) (.int .i64 k)).cells7
      refine bodyPost_ret (v := .agg #[.bool n, .int .i64 p, .int .i64 q, .slice a1 R.reads.length d1, .slice a2 R.puts.length d2, .int .i64 R.val, .int .i64 k]) (by simp [results, Tryd.results33, go_sem, d0, d1', d2', d3, d4, d5, d6]) rfl ?_
      have N : Hid (∀ b, (blk1 ⟨0, ⟨false, 0, 0, R.reads, R.puts, R.val, R.code⟩, a1, d1, a2, d2⟩ = some b ∨ blk2 ⟨0, ⟨false, 0, 0, R.reads, R.puts, R.val, R.code⟩, a1, d1, a2, d2⟩ = some b) → b ≠ w.heap.size) := by
        intro b hb
        have := S45.out.1
        have : w4.heap.size ≤ b := by
          rcases hb with hb | hb
          · exact (Y6.out.b1 b hb).1
          · exact (Y6.out.b2 b hb).1
        have := L4.out
        omega
      exact ⟨⟨0, ⟨n, p, q, R.reads, R.puts, R.val, k⟩, a1, d1, a2, d2⟩, rfl, ⟨((Y6.out.off (W7.only wc w.heap.size _ _ _ _ _ _ _) N.out).low S45.out.1).as _ _ _ _ _ _, ⟨KK.out.2.2.1, KK.out.2.2.2⟩, F6'.out, GG.out.1, GG.out.2.2.1, GG.out.2.2.2⟩, ⟨p', hp', D6.out.w7 HBs.out _ _ _ _ _ _ _⟩, A6.out.w7 (Nat.le_refl _) _ _ _ _ _ _ _⟩
/-- The same, cell by cell. -/
theorem l5AnyX (rb B r0 : Nat) (la : Option Addr) (lc : Nat) (bs : List P2) (w : World) (h : Rd w rb B r0) (hp : r0 ≤ 2 ^ 28) (hb : Sl w la bs) (hn : ∀ x, la = some x → bs ≠ [] → x.block ≠ rb) (l1 : bs.length ≤ 2 ^ 40) :
    Calls Tryd.prog 33 #[.pointer (some ⟨rb, 0, none⟩), .slice la bs.length lc] w fun e w' => ∃ n p q a1 d1 xs a2 d2 ys v k, e = .returned (.agg #[.bool n, .int .i64 p, .int .i64 q, .slice a1 (List.length (α := P2) xs) d1, .slice a2 (List.length (α := P2) ys) d2, .int .i64 v, .int .i64 k]) ∧ OneOwn w' w.heap.size ⟨0, ⟨n, p, q, xs, ys, v, k⟩, a1, d1, a2, d2⟩ ∧ (xs.length ≤ 4 ∧ ys.length ≤ 4) ∧ (∃ p', p' ≤ r0 + 200 ∧ Rd w' rb B p') ∧ Bar rb w w' :=
  (l5Any rb B r0 la lc bs w h hp hb hn l1).mono fun e w' ⟨⟨z, ⟨n, p, q, xs, ys, v, k⟩, a1, d1, a2, d2⟩, he, ⟨ho, ⟨h1, h2⟩, _⟩, hr, hbr⟩ =>
    ⟨n, p, q, a1, d1, xs, a2, d2, ys, v, k, he, ho.as _ _ _ _ _ _, ⟨h1, h2⟩, hr, hbr⟩
/-- The same, and its numbers fit. -/
theorem l5AnyF (rb B r0 : Nat) (la : Option Addr) (lc : Nat) (bs : List P2) (w : World) (h : Rd w rb B r0) (hp : r0 ≤ 2 ^ 28) (hb : Sl w la bs) (hn : ∀ x, la = some x → bs ≠ [] → x.block ≠ rb) (l1 : bs.length ≤ 2 ^ 40) :
    Calls Tryd.prog 33 #[.pointer (some ⟨rb, 0, none⟩), .slice la bs.length lc] w fun e w' => ∃ n p q a1 d1 xs a2 d2 ys v k, e = .returned (.agg #[.bool n, .int .i64 p, .int .i64 q, .slice a1 (List.length (α := P2) xs) d1, .slice a2 (List.length (α := P2) ys) d2, .int .i64 v, .int .i64 k]) ∧ OneOwn w' w.heap.size ⟨0, ⟨n, p, q, xs, ys, v, k⟩, a1, d1, a2, d2⟩ ∧ (xs.length ≤ 4 ∧ ys.length ≤ 4) ∧ FitsE ⟨n, p, q, xs, ys, v, k⟩ ∧ Bar rb w w' :=
  (l5Any rb B r0 la lc bs w h hp hb hn l1).mono fun e w' ⟨⟨z, ⟨n, p, q, xs, ys, v, k⟩, a1, d1, a2, d2⟩, he, ⟨ho, h12, hf⟩, hr, hbr⟩ =>
    ⟨n, p, q, a1, d1, xs, a2, d2, ys, v, k, he, ho.as _ _ _ _ _ _, h12, hf, hbr⟩
end Go.Proofs.YtokbakphfodabaaDoor.Own

namespace Go.Proofs.YtokbakphfodabaaDoor.Own
open Go.RowKit
set_option linter.unusedVariables false
set_option linter.unusedSimpArgs false

def zeros8 : Array Value := #[.int .i64 0, .int .i64 0, .int .i64 0, .int .i64 0, .int .i64 0, .int .i64 0, .int .i64 0, .int .i64 0]

theorem mk4 (w : World) : (Instr.makeSlice 23 (.int .i64 4) (.int .i64 4)).run Tryd.prog w = .ok (.slice (some ⟨w.heap.size, 0, none⟩) 4 4) (w.alloc (.cells zeros8 86)) := by kernel_rfl
theorem szBox : (Tryd.prog.info? 86).map (·.size) = some 2 := by kernel_rfl

set_option maxHeartbeats 400000 in
theorem specOpen (w : World) : Calls Tryd.prog 59 #[] w fun e w' => e = .returned (.slice (some ⟨w.heap.size, 0, none⟩) 4 4) ∧ w' = w.alloc (.cells zeros8 86) := by
  have hmk := mk4
  go_enter Tryd.func59, Tryd.ntmps59
  go_wp2
  go_ret
  exact ⟨rfl, rfl⟩

def zero4 : List (Int × Int) := [(0, 0), (0, 0), (0, 0), (0, 0)]
theorem zeros_at {w : World} {b : Nat} {t : TypeId} {f : Nat × Nat} (h : w.heap[b]? = some (.cells zeros8 t f)) : BoxAt w b 0 zero4 := by
  refine ⟨(Array.getElem?_eq_some_iff.1 h).1, fun i hi => ?_⟩
  rw [cell_heap h, cell_heap h]
  match i, hi with
  | 0, _ | 1, _ | 2, _ | 3, _ => simp [zeros8, zero4]
end Go.Proofs.YtokbakphfodabaaDoor.Own

namespace Go.Proofs.YtokbakphfodabaaDoor.Own
open Go.RowKit

def arr8 (x0 x1 x2 x3 x4 x5 x6 x7 : Int) : Array Value := #[.int .i64 x0, .int .i64 x1, .int .i64 x2, .int .i64 x3, .int .i64 x4, .int .i64 x5, .int .i64 x6, .int .i64 x7]

theorem copyAll (x0 x1 x2 x3 x4 x5 x6 x7 : Int) (w : World) :
    (Builtin.copy_ #[23, 23] 3 #[.slice (some ⟨w.heap.size + 1, 0, none⟩) 4 4, .slice (some ⟨w.heap.size, 0, none⟩) 4 4]).run Tryd.prog
      ((w.alloc (.cells #[.int .i64 x0, .int .i64 x1, .int .i64 x2, .int .i64 x3, .int .i64 x4, .int .i64 x5, .int .i64 x6, .int .i64 x7] 88)).alloc (.cells zeros8 86)) =
    .ok (.int .i64 4) (((w.alloc (.cells #[.int .i64 x0, .int .i64 x1, .int .i64 x2, .int .i64 x3, .int .i64 x4, .int .i64 x5, .int .i64 x6, .int .i64 x7] 88)).alloc (.cells zeros8 86)).setRow (w.heap.size + 1) (arr8 x0 x1 x2 x3 x4 x5 x6 x7)) := by
  refine (run_copy_fat (P := Tryd.prog) _ 23 23 3 86 (w.heap.size + 1) 0 4 4 ⟨w.heap.size, 0, none⟩ 4 4 2 zeros8 86 (arr8 x0 x1 x2 x3 x4 x5 x6 x7).toList Tryd.underlying23 szBox ?_ rfl ?_ (by simp [zeros8, arr8]) (by simp [arr8, Value.oneCell'])).trans ?_
  · exact heap_new2 _ _ _
  · intro j v h
    have e : (⟨w.heap.size, 0, none⟩ : Addr).add j = ⟨w.heap.size, j, none⟩ := by simp [Addr.add]; omega
    rw [e, cell_heap (heap_new1 _ _ _), ← h]
    simp [arr8]
  · simp [arr8, zeros8, goInt]

set_option maxHeartbeats 400000 in
theorem arrList (x0 x1 x2 x3 x4 x5 x6 x7 : Int) (w : World) : Calls Tryd.prog 66 #[.agg #[.int .i64 x0, .int .i64 x1, .int .i64 x2, .int .i64 x3, .int .i64 x4, .int .i64 x5, .int .i64 x6, .int .i64 x7]] w
    fun e w' => e = .returned (.slice (some ⟨w.heap.size + 1, 0, none⟩) 4 4) ∧ w'.heap[w.heap.size + 1]? = some (.cells (arr8 x0 x1 x2 x3 x4 x5 x6 x7) 86 (0, 0)) ∧ Below w.heap.size w w' ∧ w'.heap.size = w.heap.size + 2 := by
  have hmk := mk4
  have hcp := copyAll x0 x1 x2 x3 x4 x5 x6 x7 w
  go_enter Tryd.func66, Tryd.ntmps66
  go_wp2
  go_ret
  refine ⟨rfl, ?_, ?_, ?_⟩
  · rw [setRow_heap _ _ zeros8 _ 86 (0, 0)]
    exact heap_new2 _ _ _
  · exact below_setRow (((Below.refl _ _).alloc (Nat.le_refl _) _).alloc (by simp) _) (by omega) _
  · simp [World.setRow]


end Go.Proofs.YtokbakphfodabaaDoor.Own
