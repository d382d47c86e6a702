/-
  Own text: what spec.l1Boxes does.
-/
import Derived.Test.YtgcencilgpilaaaPick
import Derived.Test.YtgcencilgpilaaaOpen
import Derived.Test.YtgcencilgpilaaaTo
namespace Go.Proofs.Ytgcencilgpilaaa.Own
open Go.RowKit

theorem nums_new (w : World) (zs : List Int) (cs : Array Value) (t : TypeId) (h : cs = (zs.map (Value.int .i64)).toArray) : Nums (w.alloc (.cells cs t)) w.heap.size zs := by
  subst h
  refine ⟨by rw [size_new]; omega, fun i hi => ?_⟩
  rw [cell_heap (heap_new _ _)]
  simp [List.getD, hi]

theorem Row.only {w w' : World} {b n c : Nat} (h : Row w b n) (ho : Only c w w') (hc : b ≠ c) : Row w' b n := by
  obtain ⟨C, h1, h2⟩ := h
  exact ⟨C, by rw [ho.block _ hc]; exact h1, h2⟩
theorem Row.alloc {w : World} {b n : Nat} (h : Row w b n) (o : Obj) : Row (w.alloc o) b n := h.below ((Below.refl _ _).alloc (Nat.le_refl _) o) h.lt
theorem BoxAt.alloc {w : World} {b off : Nat} {xs : List (Int × Int)} (h : BoxAt w b off xs) (o : Obj) : BoxAt (w.alloc o) b off xs := h.below ((Below.refl _ _).alloc (Nat.le_refl _) o)

theorem BoxAt.snoc {w : World} {b : Nat} {xs : List (Int × Int)} {k : Nat} (h : BoxAt w b 0 xs) (hk : xs.length = k) (p q : Int) {u v : Value} (hu : w.cell? ⟨b, k * 2, none⟩ = some u) (hv : w.cell? ⟨b, k * 2 + 1, none⟩ = some v) :
    BoxAt ((w.setCell ⟨b, k * 2, none⟩ (.int .i64 p)).setCell ⟨b, k * 2 + 1, none⟩ (.int .i64 q)) b 0 (xs ++ [(p, q)]) := by
  refine ⟨by simpa [World.setCell] using h.1, fun i hi => ?_⟩
  simp at hi
  rw [Nat.zero_add]
  by_cases e : i = k
  · subst e
    have e2 : (xs ++ [(p, q)]).getD i (0, 0) = (p, q) := by simp [List.getD, ← hk]
    rw [e2]
    exact ⟨by rw [setCell_cell_other _ _ _ _ _ (by omega)]; exact setCell_cell_same _ _ _ _ _ hu, setCell_cell_same _ _ _ _ v (by rw [setCell_cell_other _ _ _ _ _ (by omega)]; exact hv)⟩
  · have := h.2 i (by omega)
    rw [Nat.zero_add] at this
    have e2 : (xs ++ [(p, q)]).getD i (0, 0) = xs.getD i (0, 0) := by
      simp [List.getD, List.getElem?_append_left (show i < xs.length by omega)]
    rw [e2, setCell_cell_other _ _ _ _ _ (by omega), setCell_cell_other _ _ _ _ _ (by omega), setCell_cell_other _ _ _ _ _ (by omega), setCell_cell_other _ _ _ _ _ (by omega)]
    exact this

theorem getD_set (xs : List (Int × Int)) (i j : Nat) (v : Int × Int) (hi : i < xs.length) : (xs.set i v).getD j (0, 0) = if i = j then v else xs.getD j (0, 0) := by
  simp only [List.getD_eq_getElem?_getD, List.getElem?_set]
  by_cases e : i = j
  · simp [e, show j < xs.length by omega]
  · simp [e]

theorem BoxAt.setVer {w : World} {b off : Nat} {xs : List (Int × Int)} (h : BoxAt w b off xs) (i : Nat) (hi : i < xs.length) (v : Int) : BoxAt (w.setCell ⟨b, off + i * 2, none⟩ (.int .i64 v)) b off (xs.set i (v, (xs.getD i (0, 0)).2)) := by
  refine ⟨by simpa [World.setCell] using h.1, fun j hj => ?_⟩
  rw [List.length_set] at hj
  rw [getD_set _ _ _ _ hi]
  by_cases e : i = j
  · subst e
    rw [if_pos rfl]
    exact ⟨setCell_cell_same _ _ _ _ _ (h.2 i hi).1, by rw [setCell_cell_other _ _ _ _ _ (by omega)]; exact (h.2 i hi).2⟩
  · rw [if_neg e, setCell_cell_other _ _ _ _ _ (by omega), setCell_cell_other _ _ _ _ _ (by omega)]
    exact h.2 j hj

theorem BoxAt.setVal {w : World} {b off : Nat} {xs : List (Int × Int)} (h : BoxAt w b off xs) (i : Nat) (hi : i < xs.length) (v : Int) : BoxAt (w.setCell ⟨b, off + i * 2 + 1, none⟩ (.int .i64 v)) b off (xs.set i ((xs.getD i (0, 0)).1, v)) := by
  refine ⟨by simpa [World.setCell] using h.1, fun j hj => ?_⟩
  rw [List.length_set] at hj
  rw [getD_set _ _ _ _ hi]
  by_cases e : i = j
  · subst e
    rw [if_pos rfl]
    exact ⟨by rw [setCell_cell_other _ _ _ _ _ (by omega)]; exact (h.2 i hi).1, setCell_cell_same _ _ _ _ _ (h.2 i hi).2⟩
  · rw [if_neg e, setCell_cell_other _ _ _ _ _ (by omega), setCell_cell_other _ _ _ _ _ (by omega)]
    exact h.2 j hj

theorem BoxAt.take {w : World} {b off : Nat} {xs : List (Int × Int)} (h : BoxAt w b off xs) (n : Nat) (hn : n ≤ xs.length) : BoxAt w b off (xs.take n) := by
  refine ⟨h.1, fun i hi => ?_⟩
  rw [List.length_take] at hi
  have e : (xs.take n).getD i (0, 0) = xs.getD i (0, 0) := by simp [List.getD, show i < n by omega]
  rw [e]; exact h.2 i (by omega)

/-- Every number is small. -/
def Sm (xs : List (Int × Int)) : Prop := ∀ k, k < xs.length → (-2000000 ≤ (xs.getD k (0, 0)).1 ∧ (xs.getD k (0, 0)).1 ≤ 2000000) ∧ (-2000000 ≤ (xs.getD k (0, 0)).2 ∧ (xs.getD k (0, 0)).2 ≤ 2000000)
theorem Sm.nil : Sm [] := fun k hk => by simp at hk
theorem Sm.snoc {xs : List (Int × Int)} (h : Sm xs) {p q : Int} (hp : -2000000 ≤ p ∧ p ≤ 2000000) (hq : -2000000 ≤ q ∧ q ≤ 2000000) : Sm (xs ++ [(p, q)]) := by
  intro k hk
  simp at hk
  by_cases e : k < xs.length
  · have e2 : (xs ++ [(p, q)]).getD k (0, 0) = xs.getD k (0, 0) := by simp [List.getD, List.getElem?_append_left e]
    rw [e2]; exact h k e
  · have e2 : (xs ++ [(p, q)]).getD k (0, 0) = (p, q) := by
      have : k = xs.length := by omega
      simp [List.getD, this]
    rw [e2]; exact ⟨hp, hq⟩
theorem Sm.set {xs : List (Int × Int)} (h : Sm xs) (i : Nat) (hi : i < xs.length) {v : Int × Int} (h1 : -2000000 ≤ v.1 ∧ v.1 ≤ 2000000) (h2 : -2000000 ≤ v.2 ∧ v.2 ≤ 2000000) : Sm (xs.set i v) := by
  intro k hk
  rw [List.length_set] at hk
  rw [getD_set _ _ _ _ hi]
  by_cases e : i = k
  · rw [if_pos e]; exact ⟨h1, h2⟩
  · rw [if_neg e]; exact h k hk
theorem Sm.take {xs : List (Int × Int)} (h : Sm xs) (n : Nat) (hn : n ≤ xs.length) : Sm (xs.take n) := by
  intro i hi
  rw [List.length_take] at hi
  have e : (xs.take n).getD i (0, 0) = xs.getD i (0, 0) := by simp [List.getD, show i < n by omega]
  rw [e]; exact h i (by omega)
theorem nine_small {v : Int} (h : v ∈ ([0, 1, 2, 5, -3, 7, 100, 1000000, -1000000] : List Int)) : -2000000 ≤ v ∧ v ≤ 2000000 := by simp at h; omega
theorem two_small {v : Int} (h : v ∈ ([-1, 1000001] : List Int)) : -2000000 ≤ v ∧ v ≤ 2000000 := by simp at h; omega
theorem two_small' {v : Int} (h : v ∈ ([1000001, -1000001] : List Int)) : -2000000 ≤ v ∧ v ≤ 2000000 := by simp at h; omega

set_option maxHeartbeats 2000000 in
theorem l1Boxes (rb B p : Nat) (w : World) (h : Rd w rb B p) (hp : p ≤ 2 ^ 30) :
    Calls Try.prog 79 #[.pointer (some ⟨rb, 0, none⟩)] w fun e w' => ∃ xs : List (Int × Int), (xs.length = 3 ∨ xs.length = 4) ∧ e = .returned (.slice (some ⟨w.heap.size, 0, none⟩) xs.length 4) ∧ BoxAt w' w.heap.size 0 xs ∧ Sm xs ∧ Row w' w.heap.size 4 ∧ (∃ p', p' ≤ p + 20 ∧ Rd w' rb B p') ∧ Bar rb w w' := by
  have HR : Hid (Rd w rb B p) := h
  clear h
  go_enter Try.func79, Try.ntmps79
  go_wp2_with fail
  refine (specOpen w).mono ?_
  rintro e w1 ⟨rfl, hw1⟩
  have R1 : Hid (Row w1 w.heap.size 4) := by
    show Row _ _ _
    rw [hw1]; exact ⟨_, heap_new _ _, rfl, by simp [zeros8, Value.oneCell']⟩
  have D1 : Hid (Rd w1 rb B p) := by
    show Rd _ _ _ _
    rw [hw1]; exact HR.out.alloc _
  have B1 : Hid (Bar rb w w1) := by
    show Bar _ _ _
    rw [hw1]; exact (Bar.refl _ _).alloc _
  clear hw1
  go_wp2_with fail
  go_loopw [4] (fun i wr => ∃ k : Nat, k ≤ 4 ∧ i = .int .i64 k ∧ (∃ xs : List (Int × Int), xs.length = k ∧ BoxAt wr w.heap.size 0 xs ∧ Sm xs) ∧ Row wr w.heap.size 4 ∧ Rd wr rb B (p + 2 * k) ∧ Bar rb w wr) (fun i _ => 4 - (intOf i).toNat)
  case atStart => exact ⟨0, Nat.zero_le _, rfl, ⟨[], rfl, ⟨R1.out.lt, by simp⟩, Sm.nil⟩, R1.out, D1.out, B1.out⟩
  case round =>
    obtain ⟨k, hk, rfl, hx, hrow, hrd, hbar⟩ := hrel
    have HX : Hid (∃ xs : List (Int × Int), xs.length = k ∧ BoxAt wr w.heap.size 0 xs ∧ Sm xs) := hx
    have HRow : Hid (Row wr w.heap.size 4) := hrow
    have HRd : Hid (Rd wr rb B (p + 2 * k)) := hrd
    have HBar : Hid (Bar rb w wr) := hbar
    clear hx hrow hrd hbar
    by_cases hlt : k < 4
    · go_wp2_with fail
      refine (pick rb B (p + 2 * k) 5 wr HRd.out (by omega) (by omega) (by omega)).mono ?_
      rintro e w2 ⟨⟨r, rfl, r0, r1⟩, hR, hO⟩
      have HRr : Hid (-2000000 ≤ r ∧ r ≤ 2000000) := ⟨by omega, by omega⟩
      have hrb : rb < w.heap.size := Nat.lt_of_lt_of_le HR.out.1 HR.out.2.1
      have hob : w.heap.size ≠ rb := by omega
      have HO : Hid (Only rb wr w2) := hO
      have HRd2 : Hid (Rd w2 rb B (p + 2 * k + 1)) := hR
      clear hR hO
      go_wp2_with fail
      refine (num rb B (p + 2 * k + 1) w2.heap.size 9 9 [0, 1, 2, 5, -3, 7, 100, 1000000, -1000000] _ (HRd2.out.alloc _) (by omega) (nums_new _ _ _ _ rfl) rfl (by omega) (by omega) (by have := HO.out.size; have := HBar.out.size; omega)).mono ?_
      rintro e w3 ⟨⟨v, rfl, hv⟩, hR3, hO3⟩
      have HV : Hid (v ∈ ([0, 1, 2, 5, -3, 7, 100, 1000000, -1000000] : List Int)) := hv
      clear hv
      have HRow3 : Row w3 w.heap.size 4 := ((HRow.out.only HO.out hob).alloc _).only hO3 hob
      have HRow3' : Hid (Row w3 w.heap.size 4) := HRow3
      have HX3 : Hid (∃ xs : List (Int × Int), xs.length = k ∧ BoxAt w3 w.heap.size 0 xs ∧ Sm xs) := by
        obtain ⟨xs, h1, h2, h3⟩ := HX.out
        exact ⟨xs, h1, ((h2.only HO.out hob).alloc _).only hO3 hob, h3⟩
      have HBar3 : Hid (Bar rb w w3) := ((HBar.out.trans (Bar.ofOnly HO.out)).alloc _).trans (Bar.ofOnly hO3)
      have HRd3 : Hid (Rd w3 rb B (p + 2 * k + 1 + 1)) := hR3
      obtain ⟨v1, c1, _⟩ := HRow3.cell (k * 2) (by omega)
      obtain ⟨v2, c2, _⟩ := HRow3.cell (k * 2 + 1) (by omega)
      have f1 := HRow3.frozen (k * 2)
      have f2 := HRow3.frozen (k * 2 + 1)
      have C1 : Hid (w3.cell? ⟨w.heap.size, k * 2, none⟩ = some v1) := c1
      have C2 : Hid (w3.cell? ⟨w.heap.size, k * 2 + 1, none⟩ = some v2) := c2
      clear hR3 hO3 HRow3
      go_wp2
      go_roundw
      case rel =>
        refine ⟨k + 1, by omega, by go_num, ?_, (HRow3'.out.setCell _ _ rfl).setCell _ _ rfl, ?_, (HBar3.out.setCell (Nat.le_refl _) _).setCell (Nat.le_refl _) _⟩
        · obtain ⟨xs, h1, h2, h3⟩ := HX3.out
          exact ⟨xs ++ [(r, v)], by simp [h1], h2.snoc h1 r v C1.out C2.out, h3.snoc HRr.out (nine_small HV.out)⟩
        · have := (HRd3.out.setCell (q := ⟨w.heap.size, k * 2, none⟩) HR.out.2.1 (.int .i64 r)).setCell (q := ⟨w.heap.size, k * 2 + 1, none⟩) HR.out.2.1 (.int .i64 v)
          exact this
      case measure => simp [intOf]; omega
    · have hk4 : k = 4 := by omega
      subst hk4
      have hrb : rb < w.heap.size := Nat.lt_of_lt_of_le HR.out.1 HR.out.2.1
      have hob : w.heap.size ≠ rb := by omega
      go_wp2_with fail
      refine (pick rb B (p + 2 * 4) 30 wr HRd.out (by omega) (by omega) (by omega)).mono ?_
      rintro e w2 ⟨⟨r, rfl, r0, r1⟩, hR, hO⟩
      have HRd2 : Hid (Rd w2 rb B (p + 2 * 4 + 1)) := hR
      have HRow2 : Hid (Row w2 w.heap.size 4) := HRow.out.only hO hob
      have HX2 : Hid (∃ xs : List (Int × Int), xs.length = 4 ∧ BoxAt w2 w.heap.size 0 xs ∧ Sm xs) := by
        obtain ⟨xs, h1, h2, h3⟩ := HX.out
        exact ⟨xs, h1, h2.only hO hob, h3⟩
      have HBar2 : Hid (Bar rb w w2) := HBar.out.trans (Bar.ofOnly hO)
      clear hR hO
      by_cases t0 : r = 0
      · have t0' : (r == 0) = true := by simp [t0]
        clear t0
        go_wp2
        go_ret
        obtain ⟨xs, h1, h2, hsm⟩ := HX2.out
        exact ⟨xs.take 3, .inl (by simp [h1]), by simp [h1], h2.take 3 (by omega), hsm.take 3 (by omega), HRow2.out, ⟨_, by omega, HRd2.out⟩, HBar2.out⟩
      have t0' : (r == 0) = false := by simp [t0]
      clear t0
      by_cases t1 : r = 1
      · have t1' : (r == 1) = true := by simp [t1]
        clear t1
        go_wp2_with fail
        refine (pick rb B (p + 2 * 4 + 1) 4 w2 HRd2.out (by omega) (by omega) (by omega)).mono ?_
        rintro e w3 ⟨⟨j, rfl, j0, j1⟩, hR, hO⟩
        obtain ⟨j, rfl⟩ := Int.eq_ofNat_of_zero_le j0
        have HO : Hid (Only rb w2 w3) := hO
        have HRd3 : Hid (Rd w3 rb B (p + 2 * 4 + 1 + 1)) := hR
        clear hR hO
        go_wp2_with fail
        refine (num rb B (p + 2 * 4 + 1 + 1) w3.heap.size 2 2 [-1, 1000001] _ (HRd3.out.alloc _) (by omega) (nums_new _ _ _ _ rfl) rfl (by omega) (by omega) (by have := HO.out.size; have := HBar2.out.size; omega)).mono ?_
        rintro e w4 ⟨⟨v, rfl, hv⟩, hR4, hO4⟩
        have HV : Hid (-2000000 ≤ v ∧ v ≤ 2000000) := two_small hv
        clear hv
        have HRow4 : Hid (Row w4 w.heap.size 4) := ((HRow2.out.only HO.out hob).alloc _).only hO4 hob
        have HX4 : Hid (∃ xs : List (Int × Int), xs.length = 4 ∧ BoxAt w4 w.heap.size 0 xs ∧ Sm xs) := by
          obtain ⟨xs, h1, h2, h3⟩ := HX2.out
          exact ⟨xs, h1, ((h2.only HO.out hob).alloc _).only hO4 hob, h3⟩
        have HBar4 : Hid (Bar rb w w4) := ((HBar2.out.trans (Bar.ofOnly HO.out)).alloc _).trans (Bar.ofOnly hO4)
        have HRd4 : Hid (Rd w4 rb B (p + 2 * 4 + 1 + 1 + 1)) := hR4
        obtain ⟨v1, c1, _⟩ := HRow4.out.cell (j * 2) (by omega)
        have f1 := HRow4.out.frozen (j * 2)
        clear hR4 hO4
        go_wp2
        go_ret
        obtain ⟨xs, h1, h2, hsm⟩ := HX4.out
        have h3 := h2.setVer j (by omega) v
        rw [Nat.zero_add] at h3
        have h4 := HRd4.out.setCell (q := ⟨w.heap.size, j * 2, none⟩) HR.out.2.1 (.int .i64 v)
        exact ⟨_, .inr (by rw [List.length_set]; exact h1), by rw [List.length_set, h1]; rfl, h3, hsm.set j (by omega) HV.out (hsm j (by omega)).2, HRow4.out.setCell _ _ rfl, ⟨_, by omega, h4⟩, HBar4.out.setCell (Nat.le_refl _) _⟩
      have t1' : (r == 1) = false := by simp [t1]
      clear t1
      by_cases t2 : r = 2
      · have t2' : (r == 2) = true := by simp [t2]
        clear t2
        go_wp2_with fail
        refine (pick rb B (p + 2 * 4 + 1) 4 w2 HRd2.out (by omega) (by omega) (by omega)).mono ?_
        rintro e w3 ⟨⟨j, rfl, j0, j1⟩, hR, hO⟩
        obtain ⟨j, rfl⟩ := Int.eq_ofNat_of_zero_le j0
        have HO : Hid (Only rb w2 w3) := hO
        have HRd3 : Hid (Rd w3 rb B (p + 2 * 4 + 1 + 1)) := hR
        clear hR hO
        go_wp2_with fail
        refine (num rb B (p + 2 * 4 + 1 + 1) w3.heap.size 2 2 [1000001, -1000001] _ (HRd3.out.alloc _) (by omega) (nums_new _ _ _ _ rfl) rfl (by omega) (by omega) (by have := HO.out.size; have := HBar2.out.size; omega)).mono ?_
        rintro e w4 ⟨⟨v, rfl, hv⟩, hR4, hO4⟩
        have HV : Hid (-2000000 ≤ v ∧ v ≤ 2000000) := two_small' hv
        clear hv
        have HRow4 : Hid (Row w4 w.heap.size 4) := ((HRow2.out.only HO.out hob).alloc _).only hO4 hob
        have HX4 : Hid (∃ xs : List (Int × Int), xs.length = 4 ∧ BoxAt w4 w.heap.size 0 xs ∧ Sm xs) := by
          obtain ⟨xs, h1, h2, h3⟩ := HX2.out
          exact ⟨xs, h1, ((h2.only HO.out hob).alloc _).only hO4 hob, h3⟩
        have HBar4 : Hid (Bar rb w w4) := ((HBar2.out.trans (Bar.ofOnly HO.out)).alloc _).trans (Bar.ofOnly hO4)
        have HRd4 : Hid (Rd w4 rb B (p + 2 * 4 + 1 + 1 + 1)) := hR4
        obtain ⟨v1, c1, _⟩ := HRow4.out.cell (j * 2 + 1) (by omega)
        have f1 := HRow4.out.frozen (j * 2 + 1)
        clear hR4 hO4
        go_wp2
        go_ret
        obtain ⟨xs, h1, h2, hsm⟩ := HX4.out
        have h3 := h2.setVal j (by omega) v
        rw [Nat.zero_add] at h3
        have h4 := HRd4.out.setCell (q := ⟨w.heap.size, j * 2 + 1, none⟩) HR.out.2.1 (.int .i64 v)
        exact ⟨_, .inr (by rw [List.length_set]; exact h1), by rw [List.length_set, h1]; rfl, h3, hsm.set j (by omega) (hsm j (by omega)).1 HV.out, HRow4.out.setCell _ _ rfl, ⟨_, by omega, h4⟩, HBar4.out.setCell (Nat.le_refl _) _⟩
      have t2' : (r == 2) = false := by simp [t2]
      clear t2
      go_wp2
      go_ret
      obtain ⟨xs, h1, h2, hsm⟩ := HX2.out
      exact ⟨xs, .inr h1, by rw [h1]; rfl, h2, hsm, HRow2.out, ⟨_, by omega, HRd2.out⟩, HBar2.out⟩

end Go.Proofs.Ytgcencilgpilaaa.Own
