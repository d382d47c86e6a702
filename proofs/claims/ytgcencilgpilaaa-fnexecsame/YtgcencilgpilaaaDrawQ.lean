/-
  Own text: what spec.l2Any does.
-/
import Derived.Test.YtgcencilgpilaaaPick
import Derived.Test.YtgcencilgpilaaaOwnQ
import Derived.Test.YtgcencilgpilaaaCells4
import Derived.Deep.Cut
import Derived.Deep.CutRange
namespace Go.Proofs.Ytgcencilgpilaaa.Own
open Go.RowKit
set_option linter.unusedVariables false
set_option linter.unusedSimpArgs false

theorem nums_newQ (w : World) (zs : List Int) (cs : Array Value) (t : TypeId) (h : cs = (zs.map (Value.int .i64)).toArray) : Nums (w.alloc (.cells cs t)) w.heap.size zs := by
  subst h
  refine ⟨by rw [size_new]; omega, fun i hi => ?_⟩
  rw [cell_heap (heap_new _ _)]
  simp [List.getD, hi]

/-- Four cells that may be written. -/
def F4 (w : World) (b : Nat) (x0 x1 x2 x3 : Value) : Prop := C4 w b x0 x1 x2 x3 ∧ ∀ o, w.frozen? ⟨b, o, none⟩ = false
theorem F4.new (w : World) (x0 x1 x2 x3 : Value) (t : TypeId) : F4 (w.alloc (.cells #[x0, x1, x2, x3] t)) w.heap.size x0 x1 x2 x3 := ⟨C4.new _ _ _ _ _ _, fun o => frozen_heap (heap_new _ _) o⟩
theorem F4.block {w w' : World} {b : Nat} {x0 x1 x2 x3 : Value} (h : F4 w b x0 x1 x2 x3) (hs : w.heap.size ≤ w'.heap.size) (hb : w'.heap[b]? = w.heap[b]?) : F4 w' b x0 x1 x2 x3 := by
  have e : ∀ o, w'.cell? ⟨b, o, none⟩ = w.cell? ⟨b, o, none⟩ := fun o => World.cell?_of_block (w := w) (a := ⟨b, o, none⟩) hb
  refine ⟨⟨Nat.lt_of_lt_of_le h.1.1 hs, ?_⟩, fun o => by rw [World.frozen?_of_block (w := w) (a := ⟨b, o, none⟩) hb]; exact h.2 o⟩
  rw [e, e, e, e]; exact h.1.2
theorem F4.only {w w' : World} {b c : Nat} {x0 x1 x2 x3 : Value} (h : F4 w b x0 x1 x2 x3) (ho : Only c w w') (hc : b ≠ c) : F4 w' b x0 x1 x2 x3 := h.block (Nat.le_of_eq ho.size.symm) (ho.block b hc)
theorem F4.alloc {w : World} {b : Nat} {x0 x1 x2 x3 : Value} (h : F4 w b x0 x1 x2 x3) (o : Obj) : F4 (w.alloc o) b x0 x1 x2 x3 := h.block (by rw [size_new]; omega) (heap_old w o b h.1.1)

theorem F4.far {w : World} {b c o : Nat} {x0 x1 x2 x3 : Value} (h : F4 w b x0 x1 x2 x3) (hc : b ≠ c) (v : Value) : F4 (w.setCell ⟨c, o, none⟩ v) b x0 x1 x2 x3 := h.only ((Only.refl c w).setCell _) hc
theorem F4.set1 {w : World} {b : Nat} {x0 x1 x2 x3 : Value} (h : F4 w b x0 x1 x2 x3) (v : Value) : F4 (w.setCell ⟨b, 1, none⟩ v) b x0 v x2 x3 :=
  ⟨⟨by simpa [World.setCell] using h.1.1, by rw [setCell_cell_other _ _ _ _ _ (by omega)]; exact h.1.2.1, setCell_cell_same _ _ _ _ _ h.1.2.2.1, by rw [setCell_cell_other _ _ _ _ _ (by omega)]; exact h.1.2.2.2.1, by rw [setCell_cell_other _ _ _ _ _ (by omega)]; exact h.1.2.2.2.2⟩, fun o => by simpa using h.2 o⟩
theorem F4.set2 {w : World} {b : Nat} {x0 x1 x2 x3 : Value} (h : F4 w b x0 x1 x2 x3) (v : Value) : F4 (w.setCell ⟨b, 2, none⟩ v) b x0 x1 v x3 :=
  ⟨⟨by simpa [World.setCell] using h.1.1, by rw [setCell_cell_other _ _ _ _ _ (by omega)]; exact h.1.2.1, by rw [setCell_cell_other _ _ _ _ _ (by omega)]; exact h.1.2.2.1, setCell_cell_same _ _ _ _ _ h.1.2.2.2.1, by rw [setCell_cell_other _ _ _ _ _ (by omega)]; exact h.1.2.2.2.2⟩, fun o => by simpa using h.2 o⟩

theorem smq {k a b n : Int} (h1 : -2000000 ≤ k ∧ k ≤ 2000000) (h2 : -2000000 ≤ a ∧ a ≤ 2000000) (h3 : -2000000 ≤ b ∧ b ≤ 2000000) (h4 : -2000000 ≤ n ∧ n ≤ 2000000) : SmQ (k, a, b, n) := ⟨h1, h2, h3, h4⟩

theorem six_small {v : Int} (h : v ∈ ([0, 1, 5, -2, 100, 1000000] : List Int)) : -2000000 ≤ v ∧ v ≤ 2000000 := by simp at h; omega
theorem ten_kinds {v : Int} (h : v ∈ ([1, 1, 2, 2, 3, 4, 4, 5, 6, 7] : List Int)) : 1 ≤ v ∧ v ≤ 7 := by simp at h; omega

set_option maxRecDepth 100000 in
set_option maxHeartbeats 4000000 in
theorem l2Any (rb B p : Nat) (w : World) (h : Rd w rb B p) (hp : p ≤ 2 ^ 30) :
    Calls Try.prog 121 #[.pointer (some ⟨rb, 0, none⟩)] w fun e w' => (∃ k a b n : Int, e = .returned (.agg #[.int .i64 k, .int .i64 a, .int .i64 b, .int .i64 n]) ∧ SmQ (k, a, b, n)) ∧ (∃ p', p' ≤ p + 10 ∧ Rd w' rb B p') ∧ Bar rb w w' := by
  have HR : Hid (Rd w rb B p) := h
  have hrb : rb < w.heap.size := Nat.lt_of_lt_of_le h.1 h.2.1
  have HBs : Hid (B ≤ w.heap.size) := h.2.1
  clear h
  have R0 : Hid (F4 (w.alloc (.cells #[.int .i64 0, .int .i64 0, .int .i64 0, .int .i64 0] 156)) w.heap.size (.int .i64 0) (.int .i64 0) (.int .i64 0) (.int .i64 0)) := F4.new _ _ _ _ _ _
  go_enter Try.func121, Try.ntmps121
  go_wp2_with fail
  refine (num rb B p (w.heap.size + 1) 10 10 [1, 1, 2, 2, 3, 4, 4, 5, 6, 7] _ ((HR.out.alloc _).alloc _) (by omega) (by have := nums_newQ (w.alloc (.cells #[.int .i64 0, .int .i64 0, .int .i64 0, .int .i64 0] 156)) [1, 1, 2, 2, 3, 4, 4, 5, 6, 7] _ 3 rfl; rw [size_new] at this; exact this) rfl (by omega) (by omega) (by omega)).mono ?_
  rintro e w1 ⟨⟨k, rfl, hk⟩, hR, hO⟩
  have HK : Hid (1 ≤ k ∧ k ≤ 7) := ten_kinds hk
  have R1 : Hid (F4 w1 w.heap.size (.int .i64 0) (.int .i64 0) (.int .i64 0) (.int .i64 0)) := (R0.out.alloc _).only hO (by omega)
  have D1 : Hid (Rd w1 rb B (p + 1)) := hR
  have B1 : Hid (Bar rb w w1) := (((Bar.refl rb w).alloc _).alloc _).trans (Bar.ofOnly hO)
  clear hk hR hO
  go_wp2_with fail
  refine (pick rb B (p + 1) 3 w1 D1.out (by omega) (by omega) (by omega)).mono ?_
  rintro e w2 ⟨⟨a, rfl, a0, a1⟩, hR, hO⟩
  have R2 : Hid (F4 w2 w.heap.size (.int .i64 0) (.int .i64 0) (.int .i64 0) (.int .i64 0)) := R1.out.only hO (by omega)
  have D2 : Hid (Rd w2 rb B (p + 1 + 1)) := hR
  have B2 : Hid (Bar rb w w2) := B1.out.trans (Bar.ofOnly hO)
  have HA : Hid (0 ≤ a ∧ a < 3) := ⟨a0, a1⟩
  clear hR hO a0 a1
  go_wp2_with fail
  refine (pick rb B (p + 1 + 1) 3 w2 D2.out (by omega) (by omega) (by omega)).mono ?_
  rintro e w3 ⟨⟨b, rfl, b0, b1⟩, hR, hO⟩
  obtain ⟨X, hX⟩ : ∃ X, X = w3.alloc (.cells #[.int .i64 k, .int .i64 a, .int .i64 b, .int .i64 0] 156) := ⟨_, rfl⟩
  have R3 : Hid (F4 X w.heap.size (.int .i64 0) (.int .i64 0) (.int .i64 0) (.int .i64 0)) := by show F4 _ _ _ _ _ _; rw [hX]; exact (R2.out.only hO (by omega)).alloc _
  have I3 : Hid (F4 X w3.heap.size (.int .i64 k) (.int .i64 a) (.int .i64 b) (.int .i64 0)) := by show F4 _ _ _ _ _ _; rw [hX]; exact F4.new _ _ _ _ _ _
  have D3 : Hid (Rd X rb B (p + 1 + 1 + 1)) := by show Rd _ _ _ _; rw [hX]; exact hR.alloc _
  have B3 : Hid (Bar rb w X) := by show Bar _ _ _; rw [hX]; exact (B2.out.trans (Bar.ofOnly hO)).alloc _
  have S3 : Hid (w.heap.size < w3.heap.size) := by
    show _ < _
    have h1 := R2.out.1.1
    have h2 := hO.size
    omega
  have HBb : Hid (0 ≤ b ∧ b < 3) := ⟨b0, b1⟩
  have HX : Hid (X = _) := hX
  clear hR hO b0 b1 hX
  have hrw : w.heap.size < w3.heap.size := S3.out
  have hBs := HBs.out
  obtain ⟨⟨_, i0, i1, i2, i3⟩, ifr⟩ := I3.out
  obtain ⟨⟨_, r0, r1, r2, r3⟩, rfr⟩ := R3.out
  go_upto_region 2 with fail
  rw [← HX.out]
  have EN : Hid (∀ (W : World) (p' : Nat), Rd W rb B p' → Bar rb w W → ∀ x0 x1 x2 x3 : Value, Rd ((((W.setCell ⟨w.heap.size, 0, none⟩ x0).setCell ⟨w.heap.size, 1, none⟩ x1).setCell ⟨w.heap.size, 2, none⟩ x2).setCell ⟨w.heap.size, 3, none⟩ x3) rb B p' ∧ Bar rb w ((((W.setCell ⟨w.heap.size, 0, none⟩ x0).setCell ⟨w.heap.size, 1, none⟩ x1).setCell ⟨w.heap.size, 2, none⟩ x2).setCell ⟨w.heap.size, 3, none⟩ x3)) := by
    intro W p' hR hB x0 x1 x2 x3
    exact ⟨(((hR.setCell (q := ⟨w.heap.size, 0, none⟩) hBs x0).setCell (q := ⟨w.heap.size, 1, none⟩) hBs x1).setCell (q := ⟨w.heap.size, 2, none⟩) hBs x2).setCell (q := ⟨w.heap.size, 3, none⟩) hBs x3, (((hB.setCell (Nat.le_refl _) _).setCell (Nat.le_refl _) _).setCell (Nat.le_refl _) _).setCell (Nat.le_refl _) _⟩
  have hIw : w.heap.size ≤ w3.heap.size := by omega
  have hIB : B ≤ w3.heap.size := by omega
  cases t3 : (k == 3) with
  | true =>
    have K3 : Hid (k = 3) := by show _ = _; simpa using t3
    obtain ⟨X1, hX1⟩ : ∃ X1, X1 = X.setCell ⟨w3.heap.size, 2, none⟩ (.int .i64 0) := ⟨_, rfl⟩
    have J1 : Hid (F4 X1 w3.heap.size (.int .i64 k) (.int .i64 a) (.int .i64 0) (.int .i64 0)) := by show F4 _ _ _ _ _ _; rw [hX1]; exact I3.out.set2 _
    have Q1 : Hid (F4 X1 w.heap.size (.int .i64 0) (.int .i64 0) (.int .i64 0) (.int .i64 0)) := by show F4 _ _ _ _ _ _; rw [hX1]; exact R3.out.far (by omega) _
    have E1 : Hid (Rd X1 rb B (p + 1 + 1 + 1)) := by show Rd _ _ _ _; rw [hX1]; exact D3.out.setCell (q := ⟨w3.heap.size, 2, none⟩) hIB _
    have A1 : Hid (Bar rb w X1) := by show Bar _ _ _; rw [hX1]; exact B3.out.setCell (p := ⟨w3.heap.size, 2, none⟩) hIw _
    have HX1 : Hid (X1 = _) := hX1
    clear hX1
    go_upto_region 5 with fail
    rw [← HX1.out]
    clear i0 i1 i2 i3 ifr r0 r1 r2 r3 rfr
    obtain ⟨⟨_, i0, i1, i2, i3⟩, ifr⟩ := J1.out
    obtain ⟨⟨_, r0, r1, r2, r3⟩, rfr⟩ := Q1.out
    go_wp2_with fail
    refine (num rb B (p + 1 + 1 + 1) X1.heap.size 6 6 [0, 1, 5, -2, 100, 1000000] _ (E1.out.alloc _) (by omega) (nums_newQ _ _ _ _ rfl) rfl (by omega) (by omega) (by have := A1.out.size; omega)).mono ?_
    rintro e w4 ⟨⟨n, rfl, hn⟩, hR, hO⟩
    have HN : Hid (-2000000 ≤ n ∧ n ≤ 2000000) := six_small hn
    have I4 := ((J1.out.alloc _).only hO (by omega))
    have R4 := ((Q1.out.alloc _).only hO (by omega))
    have D4 : Hid (Rd w4 rb B (p + 1 + 1 + 1 + 1)) := hR
    have B4 : Hid (Bar rb w w4) := (A1.out.alloc _).trans (Bar.ofOnly hO)
    clear hR hO hn i0 i1 i2 i3 ifr r0 r1 r2 r3 rfr
    obtain ⟨⟨_, i0, i1, i2, i3⟩, ifr⟩ := I4
    obtain ⟨⟨_, r0, r1, r2, r3⟩, rfr⟩ := R4
    go_wp2
    refine bodyPost_ret (v := .agg #[.int .i64 k, .int .i64 a, .int .i64 0, .int .i64 n]) (by simp [results, Try.results121, go_sem, r0, r1, r2, r3]) rfl ⟨⟨k, a, 0, n, rfl, ?_⟩, ?_⟩
    · have := HK.out; have := HA.out; have := HN.out
      exact smq (by omega) (by omega) (by omega) (by omega)
    · have h := EN.out (w4.setCell ⟨w3.heap.size, 3, none⟩ (.int .i64 n)) _ (D4.out.setCell (q := ⟨w3.heap.size, 3, none⟩) hIB _) (B4.out.setCell (p := ⟨w3.heap.size, 3, none⟩) hIw _) (.int .i64 k) (.int .i64 a) (.int .i64 0) (.int .i64 n)
      exact ⟨⟨_, by omega, h.1⟩, h.2⟩
  | false =>
    cases t6 : (k == 6) with
    | true =>
      go_wp2_with fail
      refine (pick rb B (p + 1 + 1 + 1) 3 X D3.out (by omega) (by omega) (by omega)).mono ?_
      rintro e w4 ⟨⟨n, rfl, n0, n1⟩, hR, hO⟩
      have I4 := (I3.out.only hO (by omega))
      have R4 := (R3.out.only hO (by omega))
      have D4 : Hid (Rd w4 rb B (p + 1 + 1 + 1 + 1)) := hR
      have B4 : Hid (Bar rb w w4) := B3.out.trans (Bar.ofOnly hO)
      clear hR hO i0 i1 i2 i3 ifr r0 r1 r2 r3 rfr
      obtain ⟨⟨_, i0, i1, i2, i3⟩, ifr⟩ := I4
      obtain ⟨⟨_, r0, r1, r2, r3⟩, rfr⟩ := R4
      go_wp2
      refine bodyPost_ret (v := .agg #[.int .i64 k, .int .i64 a, .int .i64 b, .int .i64 (1 + n)]) (by simp [results, Try.results121, go_sem, r0, r1, r2, r3]) rfl ⟨⟨k, a, b, 1 + n, rfl, ?_⟩, ?_⟩
      · have := HK.out; have := HA.out; have := HBb.out
        exact smq (by omega) (by omega) (by omega) (by omega)
      · have h := EN.out (w4.setCell ⟨w3.heap.size, 3, none⟩ (.int .i64 (1 + n))) _ (D4.out.setCell (q := ⟨w3.heap.size, 3, none⟩) hIB _) (B4.out.setCell (p := ⟨w3.heap.size, 3, none⟩) hIw _) (.int .i64 k) (.int .i64 a) (.int .i64 b) (.int .i64 (1 + n))
        exact ⟨⟨_, by omega, h.1⟩, h.2⟩
    | false =>
      cases t7 : (k == 7) with
      | true =>
        go_wp2_with fail
        refine (pick rb B (p + 1 + 1 + 1) 3 X D3.out (by omega) (by omega) (by omega)).mono ?_
        rintro e w4 ⟨⟨n, rfl, n0, n1⟩, hR, hO⟩
        have I4' : Hid _ := (I3.out.only hO (by omega))
        have R4' : Hid _ := (R3.out.only hO (by omega))
        have D4 : Hid (Rd w4 rb B (p + 1 + 1 + 1 + 1)) := hR
        have B4 : Hid (Bar rb w w4) := B3.out.trans (Bar.ofOnly hO)
        clear hR hO i0 i1 i2 i3 ifr r0 r1 r2 r3 rfr
        obtain ⟨⟨_, i0, i1, i2, i3⟩, ifr⟩ := I4'.out
        obtain ⟨⟨_, r0, r1, r2, r3⟩, rfr⟩ := R4'.out
        by_cases tn : 0 < n
        · go_wp2_with fail
          refine (pick rb B (p + 1 + 1 + 1 + 1) 4 w4 D4.out (by omega) (by omega) (by omega)).mono ?_
          rintro e w5 ⟨⟨x, rfl, x0, x1⟩, hR, hO⟩
          have R5' : Hid _ := (F4.only R4'.out hO (by omega))
          have D5 : Hid (Rd w5 rb B (p + 1 + 1 + 1 + 1 + 1)) := hR
          have B5 : Hid (Bar rb w w5) := B4.out.trans (Bar.ofOnly hO)
          clear hR hO i0 i1 i2 i3 ifr r0 r1 r2 r3 rfr
          go_wp2_with fail
          refine (pick rb B (p + 1 + 1 + 1 + 1 + 1) 4 w5 D5.out (by omega) (by omega) (by omega)).mono ?_
          rintro e w6 ⟨⟨y, rfl, y0, y1⟩, hR, hO⟩
          have R6 := (F4.only R5'.out hO (by omega))
          have D6 : Hid (Rd w6 rb B (p + 1 + 1 + 1 + 1 + 1 + 1)) := hR
          have B6 : Hid (Bar rb w w6) := B5.out.trans (Bar.ofOnly hO)
          clear hR hO
          obtain ⟨⟨_, r0, r1, r2, r3⟩, rfr⟩ := R6
          go_wp2
          refine bodyPost_ret (v := .agg #[.int .i64 4, .int .i64 x, .int .i64 y, .int .i64 0]) (by simp [results, Try.results121, go_sem, r0, r1, r2, r3]) rfl ⟨⟨4, x, y, 0, rfl, ?_⟩, ?_⟩
          · exact smq (by omega) (by omega) (by omega) (by omega)
          · have h := EN.out w6 _ D6.out B6.out (.int .i64 4) (.int .i64 x) (.int .i64 y) (.int .i64 0)
            exact ⟨⟨_, by omega, h.1⟩, h.2⟩
        · go_wp2
          refine bodyPost_ret (v := .agg #[.int .i64 k, .int .i64 0, .int .i64 0, .int .i64 0]) (by simp [results, Try.results121, go_sem, r0, r1, r2, r3]) rfl ⟨⟨k, 0, 0, 0, rfl, ?_⟩, ?_⟩
          · have := HK.out
            exact smq (by omega) (by omega) (by omega) (by omega)
          · have h := EN.out ((w4.setCell ⟨w3.heap.size, 1, none⟩ (.int .i64 0)).setCell ⟨w3.heap.size, 2, none⟩ (.int .i64 0)) _ ((D4.out.setCell (q := ⟨w3.heap.size, 1, none⟩) hIB _).setCell (q := ⟨w3.heap.size, 2, none⟩) hIB _) ((B4.out.setCell (p := ⟨w3.heap.size, 1, none⟩) hIw _).setCell (p := ⟨w3.heap.size, 2, none⟩) hIw _) (.int .i64 k) (.int .i64 0) (.int .i64 0) (.int .i64 0)
            exact ⟨⟨_, by omega, h.1⟩, h.2⟩
      | false =>
        go_wp2
        refine bodyPost_ret (v := .agg #[.int .i64 k, .int .i64 a, .int .i64 b, .int .i64 0]) (by simp [results, Try.results121, go_sem, r0, r1, r2, r3]) rfl ⟨⟨k, a, b, 0, rfl, ?_⟩, ?_⟩
        · have := HK.out; have := HA.out; have := HBb.out
          exact smq (by omega) (by omega) (by omega) (by omega)
        · have h := EN.out X _ D3.out B3.out (.int .i64 k) (.int .i64 a) (.int .i64 b) (.int .i64 0)
          exact ⟨⟨_, by omega, h.1⟩, h.2⟩
end Go.Proofs.Ytgcencilgpilaaa.Own
