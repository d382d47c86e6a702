/-
  Own texts, bundled: BoxRow, Draw, DrawCE, DrawCL, Pair2, EqualR, EntMath, EqualP.
-/
import Derived.Test.YtokbakphfodabaaDoorPk1
import Derived.Test.YtokbakphfodabaaDoorPk3
import Derived.Test.YtokbakphfodabaaDoorPk9
import Derived.Test.YtokbakphfodabaaDoorPk5
import Derived.Test.YtokbakphfodabaaDoorPk2
import Derived.Deep.Cut
import Derived.ChangeKeysEq
import Derived.BigQuiet
import Derived.Deep.QuietTactic
namespace Go.Proofs.YtokbakphfodabaaDoor.Own
open Go.RowKit

/-- A row of n boxes of one's own. -/
def Row (w : World) (b n : Nat) : Prop := ∃ C, w.heap[b]? = some (.cells C 86 (0, 0)) ∧ C.size = n * 2 ∧ ∀ v ∈ C, v.oneCell' = true

theorem Row.setCell {w : World} {b n : Nat} (h : Row w b n) (o : Nat) (v : Value) (hv : v.oneCell' = true) : Row (w.setCell ⟨b, o, none⟩ v) b n := by
  obtain ⟨C, h1, h2, h3⟩ := h
  refine ⟨C.setIfInBounds o v, ?_, by simpa using h2, ?_⟩
  · simp [World.setCell, Array.getElem?_modify, h1]
  · intro u hu
    rcases Array.mem_or_eq_of_mem_setIfInBounds hu with h | h
    · exact h3 u h
    · rw [h]; exact hv

theorem Row.cell {w : World} {b n : Nat} (h : Row w b n) (o : Nat) (ho : o < n * 2) : ∃ v, w.cell? ⟨b, o, none⟩ = some v ∧ v.oneCell' = true := by
  obtain ⟨C, h1, h2, h3⟩ := h
  rw [cell_heap h1]
  exact ⟨C[o]'(by omega), by simp, h3 _ (by simp)⟩

theorem Row.frozen {w : World} {b n : Nat} (h : Row w b n) (o : Nat) : w.frozen? ⟨b, o, none⟩ = false := by
  obtain ⟨C, h1, _⟩ := h
  exact frozen_heap h1 o

theorem Row.lt {w : World} {b n : Nat} (h : Row w b n) : b < w.heap.size := by
  obtain ⟨C, h1, _⟩ := h
  exact (Array.getElem?_eq_some_iff.1 h1).1

theorem Row.below {w w' : World} {b n B : Nat} (h : Row w b n) (hb : Below B w w') (hB : b < B) : Row w' b n := by
  obtain ⟨C, h1, h2⟩ := h
  exact ⟨C, by rw [hb.block _ hB]; exact h1, h2⟩

theorem Row.made (w : World) (n : Nat) : Row (w.alloc (.cells (madeCells (Value.agg #[.int .i64 0, .int .i64 0]).cells (n * 2)) 86)) w.heap.size n := by
  refine ⟨_, heap_new _ _, size_madeCells _ _, ?_⟩
  intro v hv
  obtain ⟨k, hk, rfl⟩ := Array.getElem_of_mem hv
  rw [size_madeCells] at hk
  obtain ⟨v, h1, h2⟩ := made_cell (z := (Value.agg #[.int .i64 0, .int .i64 0]).cells) (n := n * 2) (k := k) (by decide) hk (by simp [Value.cells, Value.oneCell'])
  rw [Array.getElem?_eq_getElem (by simpa [size_madeCells] using hk)] at h1
  injection h1 with h1
  rw [h1]; exact h2

end Go.Proofs.YtokbakphfodabaaDoor.Own

namespace Go.Proofs.YtokbakphfodabaaDoor.Own
open Go.RowKit

theorem nums_new (w : World) (zs : List Int) (cs : Array Value) (t : TypeId) (h : cs = (zs.map (Value.int .i64)).toArray) : Nums (w.alloc (.cells cs t)) w.heap.size zs := by
  subst h
  refine ⟨by rw [size_new]; omega, fun i hi => ?_⟩
  rw [cell_heap (heap_new _ _)]
  simp [List.getD, hi]

theorem Row.only {w w' : World} {b n c : Nat} (h : Row w b n) (ho : Only c w w') (hc : b ≠ c) : Row w' b n := by
  obtain ⟨C, h1, h2⟩ := h
  exact ⟨C, by rw [ho.block _ hc]; exact h1, h2⟩
theorem Row.alloc {w : World} {b n : Nat} (h : Row w b n) (o : Obj) : Row (w.alloc o) b n := h.below ((Below.refl _ _).alloc (Nat.le_refl _) o) h.lt
theorem BoxAt.alloc {w : World} {b off : Nat} {xs : List (Int × Int)} (h : BoxAt w b off xs) (o : Obj) : BoxAt (w.alloc o) b off xs := h.below ((Below.refl _ _).alloc (Nat.le_refl _) o)

theorem BoxAt.snoc {w : World} {b : Nat} {xs : List (Int × Int)} {k : Nat} (h : BoxAt w b 0 xs) (hk : xs.length = k) (p q : Int) {u v : Value} (hu : w.cell? ⟨b, k * 2, none⟩ = some u) (hv : w.cell? ⟨b, k * 2 + 1, none⟩ = some v) :
    BoxAt ((w.setCell ⟨b, k * 2, none⟩ (.int .i64 p)).setCell ⟨b, k * 2 + 1, none⟩ (.int .i64 q)) b 0 (xs ++ [(p, q)]) := by
  refine ⟨by simpa [World.setCell] using h.1, fun i hi => ?_⟩
  simp at hi
  rw [Nat.zero_add]
  by_cases e : i = k
  · subst e
    have e2 : (xs ++ [(p, q)]).getD i (0, 0) = (p, q) := by simp [List.getD, ← hk]
    rw [e2]
    exact ⟨by rw [setCell_cell_other _ _ _ _ _ (by omega)]; exact setCell_cell_same _ _ _ _ _ hu, setCell_cell_same _ _ _ _ v (by rw [setCell_cell_other _ _ _ _ _ (by omega)]; exact hv)⟩
  · have := h.2 i (by omega)
    rw [Nat.zero_add] at this
    have e2 : (xs ++ [(p, q)]).getD i (0, 0) = xs.getD i (0, 0) := by
      simp [List.getD, List.getElem?_append_left (show i < xs.length by omega)]
    rw [e2, setCell_cell_other _ _ _ _ _ (by omega), setCell_cell_other _ _ _ _ _ (by omega), setCell_cell_other _ _ _ _ _ (by omega), setCell_cell_other _ _ _ _ _ (by omega)]
    exact this

theorem getD_set (xs : List (Int × Int)) (i j : Nat) (v : Int × Int) (hi : i < xs.length) : (xs.set i v).getD j (0, 0) = if i = j then v else xs.getD j (0, 0) := by
  simp only [List.getD_eq_getElem?_getD, List.getElem?_set]
  by_cases e : i = j
  · simp [e, show j < xs.length by omega]
  · simp [e]

theorem BoxAt.setVer {w : World} {b off : Nat} {xs : List (Int × Int)} (h : BoxAt w b off xs) (i : Nat) (hi : i < xs.length) (v : Int) : BoxAt (w.setCell ⟨b, off + i * 2, none⟩ (.int .i64 v)) b off (xs.set i (v, (xs.getD i (0, 0)).2)) := by
  refine ⟨by simpa [World.setCell] using h.1, fun j hj => ?_⟩
  rw [List.length_set] at hj
  rw [getD_set _ _ _ _ hi]
  by_cases e : i = j
  · subst e
    rw [if_pos rfl]
    exact ⟨setCell_cell_same _ _ _ _ _ (h.2 i hi).1, by rw [setCell_cell_other _ _ _ _ _ (by omega)]; exact (h.2 i hi).2⟩
  · rw [if_neg e, setCell_cell_other _ _ _ _ _ (by omega), setCell_cell_other _ _ _ _ _ (by omega)]
    exact h.2 j hj

theorem BoxAt.setVal {w : World} {b off : Nat} {xs : List (Int × Int)} (h : BoxAt w b off xs) (i : Nat) (hi : i < xs.length) (v : Int) : BoxAt (w.setCell ⟨b, off + i * 2 + 1, none⟩ (.int .i64 v)) b off (xs.set i ((xs.getD i (0, 0)).1, v)) := by
  refine ⟨by simpa [World.setCell] using h.1, fun j hj => ?_⟩
  rw [List.length_set] at hj
  rw [getD_set _ _ _ _ hi]
  by_cases e : i = j
  · subst e
    rw [if_pos rfl]
    exact ⟨by rw [setCell_cell_other _ _ _ _ _ (by omega)]; exact (h.2 i hi).1, setCell_cell_same _ _ _ _ _ (h.2 i hi).2⟩
  · rw [if_neg e, setCell_cell_other _ _ _ _ _ (by omega), setCell_cell_other _ _ _ _ _ (by omega)]
    exact h.2 j hj

theorem BoxAt.take {w : World} {b off : Nat} {xs : List (Int × Int)} (h : BoxAt w b off xs) (n : Nat) (hn : n ≤ xs.length) : BoxAt w b off (xs.take n) := by
  refine ⟨h.1, fun i hi => ?_⟩
  rw [List.length_take] at hi
  have e : (xs.take n).getD i (0, 0) = xs.getD i (0, 0) := by simp [List.getD, show i < n by omega]
  rw [e]; exact h.2 i (by omega)

/-- Every number is small. -/
def Sm (xs : List (Int × Int)) : Prop := ∀ k, k < xs.length → (-2000000 ≤ (xs.getD k (0, 0)).1 ∧ (xs.getD k (0, 0)).1 ≤ 2000000) ∧ (-2000000 ≤ (xs.getD k (0, 0)).2 ∧ (xs.getD k (0, 0)).2 ≤ 2000000)
theorem Sm.nil : Sm [] := fun k hk => by simp at hk
theorem Sm.snoc {xs : List (Int × Int)} (h : Sm xs) {p q : Int} (hp : -2000000 ≤ p ∧ p ≤ 2000000) (hq : -2000000 ≤ q ∧ q ≤ 2000000) : Sm (xs ++ [(p, q)]) := by
  intro k hk
  simp at hk
  by_cases e : k < xs.length
  · have e2 : (xs ++ [(p, q)]).getD k (0, 0) = xs.getD k (0, 0) := by simp [List.getD, List.getElem?_append_left e]
    rw [e2]; exact h k e
  · have e2 : (xs ++ [(p, q)]).getD k (0, 0) = (p, q) := by
      have : k = xs.length := by omega
      simp [List.getD, this]
    rw [e2]; exact ⟨hp, hq⟩
theorem Sm.set {xs : List (Int × Int)} (h : Sm xs) (i : Nat) (hi : i < xs.length) {v : Int × Int} (h1 : -2000000 ≤ v.1 ∧ v.1 ≤ 2000000) (h2 : -2000000 ≤ v.2 ∧ v.2 ≤ 2000000) : Sm (xs.set i v) := by
  intro k hk
  rw [List.length_set] at hk
  rw [getD_set _ _ _ _ hi]
  by_cases e : i = k
  · rw [if_pos e]; exact ⟨h1, h2⟩
  · rw [if_neg e]; exact h k hk
theorem Sm.take {xs : List (Int × Int)} (h : Sm xs) (n : Nat) (hn : n ≤ xs.length) : Sm (xs.take n) := by
  intro i hi
  rw [List.length_take] at hi
  have e : (xs.take n).getD i (0, 0) = xs.getD i (0, 0) := by simp [List.getD, show i < n by omega]
  rw [e]; exact h i (by omega)
theorem nine_small {v : Int} (h : v ∈ ([0, 1, 2, 5, -3, 7, 100, 1000000, -1000000] : List Int)) : -2000000 ≤ v ∧ v ≤ 2000000 := by simp at h; omega
theorem two_small {v : Int} (h : v ∈ ([-1, 1000001] : List Int)) : -2000000 ≤ v ∧ v ≤ 2000000 := by simp at h; omega
theorem two_small' {v : Int} (h : v ∈ ([1000001, -1000001] : List Int)) : -2000000 ≤ v ∧ v ≤ 2000000 := by simp at h; omega

set_option maxHeartbeats 2000000 in
theorem l1Boxes (rb B p : Nat) (w : World) (h : Rd w rb B p) (hp : p ≤ 2 ^ 30) :
    Calls Tryd.prog 32 #[.pointer (some ⟨rb, 0, none⟩)] w fun e w' => ∃ xs : List (Int × Int), (xs.length = 3 ∨ xs.length = 4) ∧ e = .returned (.slice (some ⟨w.heap.size, 0, none⟩) xs.length 4) ∧ BoxAt w' w.heap.size 0 xs ∧ Sm xs ∧ Row w' w.heap.size 4 ∧ (∃ p', p' ≤ p + 20 ∧ Rd w' rb B p') ∧ Bar rb w w' := by
  have HR : Hid (Rd w rb B p) := h
  clear h
  go_enter Tryd.func32, Tryd.ntmps32
  go_wp2_with fail
  refine (specOpen w).mono ?_
  rintro e w1 ⟨rfl, hw1⟩
  have R1 : Hid (Row w1 w.heap.size 4) := by
    show Row _ _ _
    rw [hw1]; exact ⟨_, heap_new _ _, rfl, by simp [zeros8, Value.oneCell']⟩
  have D1 : Hid (Rd w1 rb B p) := by
    show Rd _ _ _ _
    rw [hw1]; exact HR.out.alloc _
  have B1 : Hid (Bar rb w w1) := by
    show Bar _ _ _
    rw [hw1]; exact (Bar.refl _ _).alloc _
  clear hw1
  go_wp2_with fail
  go_loopw [4] (fun i wr => ∃ k : Nat, k ≤ 4 ∧ i = .int .i64 k ∧ (∃ xs : List (Int × Int), xs.length = k ∧ BoxAt wr w.heap.size 0 xs ∧ Sm xs) ∧ Row wr w.heap.size 4 ∧ Rd wr rb B (p + 2 * k) ∧ Bar rb w wr) (fun i _ => 4 - (intOf i).toNat)
  case atStart => exact ⟨0, Nat.zero_le _, rfl, ⟨[], rfl, ⟨R1.out.lt, by simp⟩, Sm.nil⟩, R1.out, D1.out, B1.out⟩
  case round =>
    obtain ⟨k, hk, rfl, hx, hrow, hrd, hbar⟩ := hrel
    have HX : Hid (∃ xs : List (Int × Int), xs.length = k ∧ BoxAt wr w.heap.size 0 xs ∧ Sm xs) := hx
    have HRow : Hid (Row wr w.heap.size 4) := hrow
    have HRd : Hid (Rd wr rb B (p + 2 * k)) := hrd
    have HBar : Hid (Bar rb w wr) := hbar
    clear hx hrow hrd hbar
    by_cases hlt : k < 4
    · go_wp2_with fail
      refine (pick rb B (p + 2 * k) 5 wr HRd.out (by omega) (by omega) (by omega)).mono ?_
      rintro e w2 ⟨⟨r, rfl, r0, r1⟩, hR, hO⟩
      have HRr : Hid (-2000000 ≤ r ∧ r ≤ 2000000) := ⟨by omega, by omega⟩
      have hrb : rb < w.heap.size := Nat.lt_of_lt_of_le HR.out.1 HR.out.2.1
      have hob : w.heap.size ≠ rb := by omega
      have HO : Hid (Only rb wr w2) := hO
      have HRd2 : Hid (Rd w2 rb B (p + 2 * k + 1)) := hR
      clear hR hO
      go_wp2_with fail
      refine (num rb B (p + 2 * k + 1) w2.heap.size 9 9 [0, 1, 2, 5, -3, 7, 100, 1000000, -1000000] _ (HRd2.out.alloc _) (by omega) (nums_new _ _ _ _ rfl) rfl (by omega) (by omega) (by have := HO.out.size; have := HBar.out.size; omega)).mono ?_
      rintro e w3 ⟨⟨v, rfl, hv⟩, hR3, hO3⟩
      have HV : Hid (v ∈ ([0, 1, 2, 5, -3, 7, 100, 1000000, -1000000] : List Int)) := hv
      clear hv
      have HRow3 : Row w3 w.heap.size 4 := ((HRow.out.only HO.out hob).alloc _).only hO3 hob
      have HRow3' : Hid (Row w3 w.heap.size 4) := HRow3
      have HX3 : Hid (∃ xs : List (Int × Int), xs.length = k ∧ BoxAt w3 w.heap.size 0 xs ∧ Sm xs) := by
        obtain ⟨xs, h1, h2, h3⟩ := HX.out
        exact ⟨xs, h1, ((h2.only HO.out hob).alloc _).only hO3 hob, h3⟩
      have HBar3 : Hid (Bar rb w w3) := ((HBar.out.trans (Bar.ofOnly HO.out)).alloc _).trans (Bar.ofOnly hO3)
      have HRd3 : Hid (Rd w3 rb B (p + 2 * k + 1 + 1)) := hR3
      obtain ⟨v1, c1, _⟩ := HRow3.cell (k * 2) (by omega)
      obtain ⟨v2, c2, _⟩ := HRow3.cell (k * 2 + 1) (by omega)
      have f1 := HRow3.frozen (k * 2)
      have f2 := HRow3.frozen (k * 2 + 1)
      have C1 : Hid (w3.cell? ⟨w.heap.size, k * 2, none⟩ = some v1) := c1
      have C2 : Hid (w3.cell? ⟨w.heap.size, k * 2 + 1, none⟩ = some v2) := c2
      clear hR3 hO3 HRow3
      go_wp2
      go_roundw
      case rel =>
        refine ⟨k + 1, by omega, by go_num, ?_, (HRow3'.out.setCell _ _ rfl).setCell _ _ rfl, ?_, (HBar3.out.setCell (Nat.le_refl _) _).setCell (Nat.le_refl _) _⟩
        · obtain ⟨xs, h1, h2, h3⟩ := HX3.out
          exact ⟨xs ++ [(r, v)], by simp [h1], h2.snoc h1 r v C1.out C2.out, h3.snoc HRr.out (nine_small HV.out)⟩
        · have := (HRd3.out.setCell (q := ⟨w.heap.size, k * 2, none⟩) HR.out.2.1 (.int .i64 r)).setCell (q := ⟨w.heap.size, k * 2 + 1, none⟩) HR.out.2.1 (.int .i64 v)
          exact this
      case measure => simp [intOf]; omega
    · have hk4 : k = 4 := by omega
      subst hk4
      have hrb : rb < w.heap.size := Nat.lt_of_lt_of_le HR.out.1 HR.out.2.1
      have hob : w.heap.size ≠ rb := by omega
      go_wp2_with fail
      refine (pick rb B (p + 2 * 4) 30 wr HRd.out (by omega) (by omega) (by omega)).mono ?_
      rintro e w2 ⟨⟨r, rfl, r0, r1⟩, hR, hO⟩
      have HRd2 : Hid (Rd w2 rb B (p + 2 * 4 + 1)) := hR
      have HRow2 : Hid (Row w2 w.heap.size 4) := HRow.out.only hO hob
      have HX2 : Hid (∃ xs : List (Int × Int), xs.length = 4 ∧ BoxAt w2 w.heap.size 0 xs ∧ Sm xs) := by
        obtain ⟨xs, h1, h2, h3⟩ := HX.out
        exact ⟨xs, h1, h2.only hO hob, h3⟩
      have HBar2 : Hid (Bar rb w w2) := HBar.out.trans (Bar.ofOnly hO)
      clear hR hO
      by_cases t0 : r = 0
      · have t0' : (r == 0) = true := by simp [t0]
        clear t0
        go_wp2
        go_ret
        obtain ⟨xs, h1, h2, hsm⟩ := HX2.out
        exact ⟨xs.take 3, .inl (by simp [h1]), by simp [h1], h2.take 3 (by omega), hsm.take 3 (by omega), HRow2.out, ⟨_, by omega, HRd2.out⟩, HBar2.out⟩
      have t0' : (r == 0) = false := by simp [t0]
      clear t0
      by_cases t1 : r = 1
      · have t1' : (r == 1) = true := by simp [t1]
        clear t1
        go_wp2_with fail
        refine (pick rb B (p + 2 * 4 + 1) 4 w2 HRd2.out (by omega) (by omega) (by omega)).mono ?_
        rintro e w3 ⟨⟨j, rfl, j0, j1⟩, hR, hO⟩
        obtain ⟨j, rfl⟩ := Int.eq_ofNat_of_zero_le j0
        have HO : Hid (Only rb w2 w3) := hO
        have HRd3 : Hid (Rd w3 rb B (p + 2 * 4 + 1 + 1)) := hR
        clear hR hO
        go_wp2_with fail
        refine (num rb B (p + 2 * 4 + 1 + 1) w3.heap.size 2 2 [-1, 1000001] _ (HRd3.out.alloc _) (by omega) (nums_new _ _ _ _ rfl) rfl (by omega) (by omega) (by have := HO.out.size; have := HBar2.out.size; omega)).mono ?_
        rintro e w4 ⟨⟨v, rfl, hv⟩, hR4, hO4⟩
        have HV : Hid (-2000000 ≤ v ∧ v ≤ 2000000) := two_small hv
        clear hv
        have HRow4 : Hid (Row w4 w.heap.size 4) := ((HRow2.out.only HO.out hob).alloc _).only hO4 hob
        have HX4 : Hid (∃ xs : List (Int × Int), xs.length = 4 ∧ BoxAt w4 w.heap.size 0 xs ∧ Sm xs) := by
          obtain ⟨xs, h1, h2, h3⟩ := HX2.out
          exact ⟨xs, h1, ((h2.only HO.out hob).alloc _).only hO4 hob, h3⟩
        have HBar4 : Hid (Bar rb w w4) := ((HBar2.out.trans (Bar.ofOnly HO.out)).alloc _).trans (Bar.ofOnly hO4)
        have HRd4 : Hid (Rd w4 rb B (p + 2 * 4 + 1 + 1 + 1)) := hR4
        obtain ⟨v1, c1, _⟩ := HRow4.out.cell (j * 2) (by omega)
        have f1 := HRow4.out.frozen (j * 2)
        clear hR4 hO4
        go_wp2
        go_ret
        obtain ⟨xs, h1, h2, hsm⟩ := HX4.out
        have h3 := h2.setVer j (by omega) v
        rw [Nat.zero_add] at h3
        have h4 := HRd4.out.setCell (q := ⟨w.heap.size, j * 2, none⟩) HR.out.2.1 (.int .i64 v)
        exact ⟨_, .inr (by rw [List.length_set]; exact h1), by rw [List.length_set, h1]; rfl, h3, hsm.set j (by omega) HV.out (hsm j (by omega)).2, HRow4.out.setCell _ _ rfl, ⟨_, by omega, h4⟩, HBar4.out.setCell (Nat.le_refl _) _⟩
      have t1' : (r == 1) = false := by simp [t1]
      clear t1
      by_cases t2 : r = 2
      · have t2' : (r == 2) = true := by simp [t2]
        clear t2
        go_wp2_with fail
        refine (pick rb B (p + 2 * 4 + 1) 4 w2 HRd2.out (by omega) (by omega) (by omega)).mono ?_
        rintro e w3 ⟨⟨j, rfl, j0, j1⟩, hR, hO⟩
        obtain ⟨j, rfl⟩ := Int.eq_ofNat_of_zero_le j0
        have HO : Hid (Only rb w2 w3) := hO
        have HRd3 : Hid (Rd w3 rb B (p + 2 * 4 + 1 + 1)) := hR
        clear hR hO
        go_wp2_with fail
        refine (num rb B (p + 2 * 4 + 1 + 1) w3.heap.size 2 2 [1000001, -1000001] _ (HRd3.out.alloc _) (by omega) (nums_new _ _ _ _ rfl) rfl (by omega) (by omega) (by have := HO.out.size; have := HBar2.out.size; omega)).mono ?_
        rintro e w4 ⟨⟨v, rfl, hv⟩, hR4, hO4⟩
        have HV : Hid (-2000000 ≤ v ∧ v ≤ 2000000) := two_small' hv
        clear hv
        have HRow4 : Hid (Row w4 w.heap.size 4) := ((HRow2.out.only HO.out hob).alloc _).only hO4 hob
        have HX4 : Hid (∃ xs : List (Int × Int), xs.length = 4 ∧ BoxAt w4 w.heap.size 0 xs ∧ Sm xs) := by
          obtain ⟨xs, h1, h2, h3⟩ := HX2.out
          exact ⟨xs, h1, ((h2.only HO.out hob).alloc _).only hO4 hob, h3⟩
        have HBar4 : Hid (Bar rb w w4) := ((HBar2.out.trans (Bar.ofOnly HO.out)).alloc _).trans (Bar.ofOnly hO4)
        have HRd4 : Hid (Rd w4 rb B (p + 2 * 4 + 1 + 1 + 1)) := hR4
        obtain ⟨v1, c1, _⟩ := HRow4.out.cell (j * 2 + 1) (by omega)
        have f1 := HRow4.out.frozen (j * 2 + 1)
        clear hR4 hO4
        go_wp2
        go_ret
        obtain ⟨xs, h1, h2, hsm⟩ := HX4.out
        have h3 := h2.setVal j (by omega) v
        rw [Nat.zero_add] at h3
        have h4 := HRd4.out.setCell (q := ⟨w.heap.size, j * 2 + 1, none⟩) HR.out.2.1 (.int .i64 v)
        exact ⟨_, .inr (by rw [List.length_set]; exact h1), by rw [List.length_set, h1]; rfl, h3, hsm.set j (by omega) (hsm j (by omega)).1 HV.out, HRow4.out.setCell _ _ rfl, ⟨_, by omega, h4⟩, HBar4.out.setCell (Nat.le_refl _) _⟩
      have t2' : (r == 2) = false := by simp [t2]
      clear t2
      go_wp2
      go_ret
      obtain ⟨xs, h1, h2, hsm⟩ := HX2.out
      exact ⟨xs, .inr h1, by rw [h1]; rfl, h2, hsm, HRow2.out, ⟨_, by omega, HRd2.out⟩, HBar2.out⟩

end Go.Proofs.YtokbakphfodabaaDoor.Own

namespace Go.Proofs.YtokbakphfodabaaDoor.Own
open Go.RowKit
set_option linter.unusedVariables false
set_option linter.unusedSimpArgs false

theorem Bytes.belowF {w w' : World} {a : Option Addr} {n : Nat} (h : Bytes w w.heap.size a n) (hb : Below w.heap.size w w') : Bytes w' w'.heap.size a n := by
  rcases h with h | ⟨b, off, rfl, hlt, hz⟩
  · exact .inl h
  · exact .inr ⟨b, off, rfl, Nat.lt_of_lt_of_le hlt hb.size, fun i hi => by rw [hb.cell (p := ⟨b, off + i, none⟩) hlt]; exact hz i hi⟩
/-- An entry that was drawn. -/
def EntD (w : World) (e : Ending) (w' : World) : Prop := ∃ n p q a1 d1 xs a2 d2 ys v k, e = .returned (.agg #[.bool n, .int .i64 p, .int .i64 q, .slice a1 (List.length (α := P2) xs) d1, .slice a2 (List.length (α := P2) ys) d2, .int .i64 v, .int .i64 k]) ∧ OneOwn w' w.heap.size ⟨0, ⟨n, p, q, xs, ys, v, k⟩, a1, d1, a2, d2⟩ ∧ (xs.length ≤ 4 ∧ ys.length ≤ 4) ∧ FitsE ⟨n, p, q, xs, ys, v, k⟩ ∧ Below w.heap.size w w'
theorem OneOwn.offLow {w w' : World} {B c : Nat} {y : VM} (h : OneOwn w B y) (ho : Only c w w') (hc : c < B) : OneOwn w' B y :=
  h.off ho fun b hb => by
    rcases hb with hb | hb
    · have := (h.b1 b hb).1; omega
    · have := (h.b2 b hb).1; omega

set_option maxRecDepth 100000 in
set_option maxHeartbeats 4000000 in
theorem drawCertEntry (a : Option Addr) (m c : Nat) (w : World) (h : Bytes w w.heap.size a m) (hc : m ≤ c) (hm : c ≤ maxLen) :
    Calls Tryd.prog 17 #[.slice a m c] w fun e w' => EntD w e w' := by
  have HB : Hid (Bytes w w.heap.size a m) := h
  have HM : Hid (c ≤ maxLen) := hm
  clear h hm
  obtain ⟨W, hW⟩ : ∃ W, W = w.alloc (.cells #[.bool false, .int .i64 0, .int .i64 0, .slice none 0 0, .slice none 0 0, .int .i64 0, .int .i64 0] 34) := ⟨_, rfl⟩
  have EW : Hid (W = w.alloc (.cells #[.bool false, .int .i64 0, .int .i64 0, .slice none 0 0, .slice none 0 0, .int .i64 0, .int .i64 0] 34)) := hW
  have ZW : Hid (W.heap.size = w.heap.size + 1) := by show _ = _; rw [hW, size_new]
  have KW : Hid (Below w.heap.size w W) := by show Below _ _ _; rw [hW]; exact (Below.refl _ _).alloc (Nat.le_refl _) _
  have CW : Hid (Blk W w.heap.size #[.bool false, .int .i64 0, .int .i64 0, .slice none 0 0, .slice none 0 0, .int .i64 0, .int .i64 0] 34) := by show Blk _ _ _ _; rw [hW]; exact Blk.new _ _ _
  clear hW
  go_enter Tryd.func17, Tryd.ntmps17
  go_upto_region 1 with fail
  rw [← EW.out]
  clear EW
  go_wp2_with fail
  refine (l15Open a m c W (HB.out.belowF KW.out) hc HM.out).mono ?_
  rintro e w1 ⟨rfl, hR, hb⟩
  have D1 : Hid (Rd w1 W.heap.size (W.heap.size + 1) 0) := hR
  have B1 : Hid (Below W.heap.size W w1) := hb
  have S1 : Hid (W.heap.size + 1 ≤ w1.heap.size) := hR.2.1
  have C1 : Hid (Blk w1 w.heap.size _ _) := CW.out.keep hb
  clear hR hb
  go_wp2_with fail
  refine (l1Boxes W.heap.size (W.heap.size + 1) 0 w1 D1.out (by omega)).mono ?_
  rintro e w2 ⟨bs, hl, rfl, hat, _, _, ⟨p', hp, hr⟩, hbar⟩
  have D2 : Hid (Rd w2 W.heap.size (W.heap.size + 1) p') := hr
  have C2 : Hid (Blk w2 w.heap.size _ _) := C1.out.bar1 hbar (by have := ZW.out; omega)
  have A2 : Hid (Bar W.heap.size w1 w2) := hbar
  have T2 : Hid (Sl w2 (some ⟨w1.heap.size, 0, none⟩) bs) := .inr ⟨_, 0, rfl, hat⟩
  have L2 : Hid (bs.length ≤ 4) := by show _ ≤ _; omega
  clear hr hbar hat hl
  go_wp2_with fail
  refine (l5AnyF W.heap.size (W.heap.size + 1) p' (some ⟨w1.heap.size, 0, none⟩) 4 bs w2 D2.out (by omega) T2.out (fun x hx _ => by injection hx with hx; subst hx; have := S1.out; show w1.heap.size ≠ _; omega) (by have := L2.out; omega)).mono ?_
  rintro e w3 ⟨n, p, q, a1, d1, xs, a2, d2, ys, v, k, rfl, ho, hl, hf, hbar⟩
  have C3 : Hid (Blk w3 w.heap.size #[.bool false, .int .i64 0, .int .i64 0, .slice none 0 0, .slice none 0 0, .int .i64 0, .int .i64 0] 34) := C2.out.bar1 hbar (by have := ZW.out; omega)
  have K3 : Hid (Below w.heap.size w w3) := KW.out.trans ((B1.out.mono (by have := ZW.out; omega)).trans ((A2.out.trans hbar).below (by have := ZW.out; omega) (by have := ZW.out; have := S1.out; omega)))
  have O3 : Hid (OneOwn w3 w2.heap.size ⟨0, ⟨n, p, q, xs, ys, v, k⟩, a1, d1, a2, d2⟩) := ho
  have G2 : Hid (w.heap.size < w2.heap.size) := C2.out.lt
  have F3 : Hid ((xs.length ≤ 4 ∧ ys.length ≤ 4) ∧ FitsE ⟨n, p, q, xs, ys, v, k⟩) := ⟨hl, hf⟩
  clear ho hl hf hbar D2 D1 C2 C1 A2 T2
  obtain ⟨z0, z1, z2, z3, z4, z5, z6⟩ := C3.out.cells7
  have fz := C3.out.frozen
  go_wp2_with fail
  obtain ⟨e0, e1, e2, e3, e4, e5, e6⟩ := (C3.out.set7 (.bool n) (.int .i64 p) (.int .i64 q) (.slice a1 xs.length d1) (.slice a2 ys.length d2) (.int .i64 v) (.int .i64 k)).cells7
  refine bodyPost_ret (v := .agg #[.bool n, .int .i64 p, .int .i64 q, .slice a1 xs.length d1, .slice a2 ys.length d2, .int .i64 v, .int .i64 k]) (by simp [results, Tryd.results17, go_sem, e0, e1, e2, e3, e4, e5, e6]) rfl ?_
  exact ⟨n, p, q, a1, d1, xs, a2, d2, ys, v, k, rfl, (O3.out.offLow (W7.only w3 w.heap.size _ _ _ _ _ _ _) G2.out).low (Nat.le_of_lt G2.out), F3.out.1, F3.out.2, K3.out.trans ((W7.only w3 w.heap.size _ _ _ _ _ _ _).below (Nat.le_refl _))⟩

set_option maxRecDepth 100000 in
set_option maxHeartbeats 4000000 in
theorem drawMsgEntry (a : Option Addr) (m c : Nat) (w : World) (h : Bytes w w.heap.size a m) (hc : m ≤ c) (hm : c ≤ maxLen) :
    Calls Tryd.prog 25 #[.slice a m c] w fun e w' => EntD w e w' := by
  have HB : Hid (Bytes w w.heap.size a m) := h
  have HM : Hid (c ≤ maxLen) := hm
  clear h hm
  obtain ⟨W, hW⟩ : ∃ W, W = w.alloc (.cells #[.bool false, .int .i64 0, .int .i64 0, .slice none 0 0, .slice none 0 0, .int .i64 0, .int .i64 0] 34) := ⟨_, rfl⟩
  have EW : Hid (W = w.alloc (.cells #[.bool false, .int .i64 0, .int .i64 0, .slice none 0 0, .slice none 0 0, .int .i64 0, .int .i64 0] 34)) := hW
  have ZW : Hid (W.heap.size = w.heap.size + 1) := by show _ = _; rw [hW, size_new]
  have KW : Hid (Below w.heap.size w W) := by show Below _ _ _; rw [hW]; exact (Below.refl _ _).alloc (Nat.le_refl _) _
  have CW : Hid (Blk W w.heap.size #[.bool false, .int .i64 0, .int .i64 0, .slice none 0 0, .slice none 0 0, .int .i64 0, .int .i64 0] 34) := by show Blk _ _ _ _; rw [hW]; exact Blk.new _ _ _
  clear hW
  go_enter Tryd.func25, Tryd.ntmps25
  go_upto_region 1 with fail
  rw [← EW.out]
  clear EW
  go_wp2_with fail
  refine (drawCertEntry a m c W (HB.out.belowF KW.out) hc HM.out).mono ?_
  rintro e w3 ⟨n, p, q, a1, d1, xs, a2, d2, ys, v, k, rfl, ho, hl, hf, hbar⟩
  have C3 : Hid (Blk w3 w.heap.size #[.bool false, .int .i64 0, .int .i64 0, .slice none 0 0, .slice none 0 0, .int .i64 0, .int .i64 0] 34) := CW.out.keep hbar
  have K3 : Hid (Below w.heap.size w w3) := KW.out.trans (hbar.mono (by have := ZW.out; omega))
  have O3 : Hid (OneOwn w3 W.heap.size ⟨0, ⟨n, p, q, xs, ys, v, k⟩, a1, d1, a2, d2⟩) := ho
  have G2 : Hid (w.heap.size < W.heap.size) := by show _ < _; have := ZW.out; omega
  have F3 : Hid ((xs.length ≤ 4 ∧ ys.length ≤ 4) ∧ FitsE ⟨n, p, q, xs, ys, v, k⟩) := ⟨hl, hf⟩
  clear ho hl hf hbar
  obtain ⟨z0, z1, z2, z3, z4, z5, z6⟩ := C3.out.cells7
  have fz := C3.out.frozen
  go_wp2_with fail
  obtain ⟨e0, e1, e2, e3, e4, e5, e6⟩ := (C3.out.set7 (.bool n) (.int .i64 p) (.int .i64 q) (.slice a1 xs.length d1) (.slice a2 ys.length d2) (.int .i64 v) (.int .i64 k)).cells7
  refine bodyPost_ret (v := .agg #[.bool n, .int .i64 p, .int .i64 q, .slice a1 xs.length d1, .slice a2 ys.length d2, .int .i64 v, .int .i64 k]) (by simp [results, Tryd.results25, go_sem, e0, e1, e2, e3, e4, e5, e6]) rfl ?_
  exact ⟨n, p, q, a1, d1, xs, a2, d2, ys, v, k, rfl, (O3.out.offLow (W7.only w3 w.heap.size _ _ _ _ _ _ _) G2.out).low (Nat.le_of_lt G2.out), F3.out.1, F3.out.2, K3.out.trans ((W7.only w3 w.heap.size _ _ _ _ _ _ _).below (Nat.le_refl _))⟩
end Go.Proofs.YtokbakphfodabaaDoor.Own

namespace Go.Proofs.YtokbakphfodabaaDoor.Own
open Go.RowKit
set_option linter.unusedVariables false
set_option linter.unusedSimpArgs false

def TwoEnts (w w' : World) (e : Ending) : Prop := ∃ n p q a1 c1 xs a2 c2 ys v k n' p' q' b1 d1 zs b2 d2 us v' k', e = .returned (.tuple #[.agg #[.bool n, .int .i64 p, .int .i64 q, .slice a1 (List.length (α := P2) xs) c1, .slice a2 (List.length (α := P2) ys) c2, .int .i64 v, .int .i64 k], .agg #[.bool n', .int .i64 p', .int .i64 q', .slice b1 (List.length (α := P2) zs) d1, .slice b2 (List.length (α := P2) us) d2, .int .i64 v', .int .i64 k']]) ∧ ((∃ B, OneOwn w' B ⟨0, ⟨n, p, q, xs, ys, v, k⟩, a1, c1, a2, c2⟩) ∧ (xs.length ≤ 4 ∧ ys.length ≤ 4) ∧ FitsE ⟨n, p, q, xs, ys, v, k⟩) ∧ ((∃ B, OneOwn w' B ⟨0, ⟨n', p', q', zs, us, v', k'⟩, b1, d1, b2, d2⟩) ∧ (zs.length ≤ 4 ∧ us.length ≤ 4) ∧ FitsE ⟨n', p', q', zs, us, v', k'⟩) ∧ Below w.heap.size w w'
theorem FitsE.next {n : Bool} {p q v k : Int} {xs ys : List P2} (h : FitsE ⟨n, p, q, xs, ys, v, k⟩) : FitsE ⟨n, p, wrap64 (q + 1), xs, ys, v, k⟩ :=
  ⟨⟨h.1.1, by show Fits (wrap64 (q + 1)); unfold Fits wrap64; omega, h.1.2.2⟩, h.2⟩
theorem OneOwn.turned {L : List Nat} {w X W' : World} {B : Nat} {y : VM} (h : OneOwn w B y) (hb : Below w.heap.size w X) (ht : Turned L X W') (hL : ∀ b, B ≤ b → b < w.heap.size → b ∉ L) : OneOwn W' B y :=
  h.blkV (Nat.le_trans hb.size ht.size) fun b hx => by
    have e : B ≤ b ∧ b < w.heap.size := by
      rcases hx with hx | hx
      · exact h.b1 b hx
      · exact h.b2 b hx
    rw [ht.block b (Nat.lt_of_lt_of_le e.2 hb.size) (hL b e.1 e.2), hb.block b e.2]

set_option maxRecDepth 100000 in
set_option maxHeartbeats 8000000 in
theorem drawCertLike (a : Option Addr) (m c : Nat) (w : World) (h : Bytes w w.heap.size a m) (hc : m ≤ c) (hm : c ≤ maxLen) :
    Calls Tryd.prog 16 #[.slice a m c] w fun e w' => TwoEnts w w' e := by
  have HB : Hid (Bytes w w.heap.size a m) := h
  have HM : Hid (c ≤ maxLen) := hm
  clear h
  unfold maxLen at hm
  obtain ⟨W, hW⟩ : ∃ W, W = (w.alloc (.cells #[.bool false, .int .i64 0, .int .i64 0, .slice none 0 0, .slice none 0 0, .int .i64 0, .int .i64 0] 34)).alloc (.cells #[.bool false, .int .i64 0, .int .i64 0, .slice none 0 0, .slice none 0 0, .int .i64 0, .int .i64 0] 34) := ⟨_, rfl⟩
  have BW : Hid (Below w.heap.size w W) := by show Below _ _ _; rw [hW]; exact ((Below.refl _ _).alloc (Nat.le_refl _) _).alloc (by simp) _
  have SW : Hid (W.heap.size = w.heap.size + 2) := by show _ = _; rw [hW]; simp
  have ZA : Hid (Blk W w.heap.size #[.bool false, .int .i64 0, .int .i64 0, .slice none 0 0, .slice none 0 0, .int .i64 0, .int .i64 0] 34) := by show Blk _ _ _ _; rw [hW]; exact (Blk.new _ _ _).alloc _
  have ZB : Hid (Blk W (w.heap.size + 1) #[.bool false, .int .i64 0, .int .i64 0, .slice none 0 0, .slice none 0 0, .int .i64 0, .int .i64 0] 34) := by show Blk _ _ _ _; rw [hW]; exact Blk.new2 _ _ _ _
  have HW : Hid (W = _) := hW
  clear hW
  go_enter Tryd.func16, Tryd.ntmps16
  go_wp2_with fail
  rw [← HW.out]
  refine (drawCertEntry a m c W (HB.out.belowF BW.out) hc HM.out).mono ?_
  rintro e w2 ⟨n, p, q, a1, c1, xs, a2, c2, ys, v, k, rfl, ho, hl, hf, hb⟩
  obtain ⟨X2, hX2⟩ : ∃ X, X = w2.alloc (.cells #[.bool n, .int .i64 p, .int .i64 q, .slice a1 xs.length c1, .slice a2 ys.length c2, .int .i64 v, .int .i64 k] 34) := ⟨_, rfl⟩
  have c2' : Below w2.heap.size w2 X2 := by rw [hX2]; exact below_new _ _
  have B2 : Hid (Below W.heap.size W X2) := hb.trans (c2'.mono hb.size)
  have N2 : Hid (Below w2.heap.size w2 X2) := c2'
  have O2 : Hid (OneOwn w2 W.heap.size ⟨0, ⟨n, p, q, xs, ys, v, k⟩, a1, c1, a2, c2⟩) := ho
  have F2 : Hid ((xs.length ≤ 4 ∧ ys.length ≤ 4) ∧ FitsE ⟨n, p, q, xs, ys, v, k⟩) := ⟨hl, hf⟩
  have X2b : Hid (Blk X2 w2.heap.size #[.bool n, .int .i64 p, .int .i64 q, .slice a1 xs.length c1, .slice a2 ys.length c2, .int .i64 v, .int .i64 k] 34) := by show Blk _ _ _ _; rw [hX2]; exact Blk.new _ _ _
  have G2 : Hid (W.heap.size ≤ w2.heap.size) := hb.size
  have HX2 : Hid (X2 = _) := hX2
  clear hX2 c2' hb ho hl hf
  go_wp2_with fail
  rw [← HX2.out]
  refine (drawCertEntry a m c X2 (HB.out.belowF (BW.out.trans (B2.out.mono BW.out.size))) hc HM.out).mono ?_
  rintro e w4 ⟨n', p', q', b1, d1, zs, b2, d2, us, v', k', rfl, ho, hl, hf, hb⟩
  obtain ⟨X4, hX4⟩ : ∃ X, X = w4.alloc (.cells #[.bool n', .int .i64 p', .int .i64 q', .slice b1 zs.length d1, .slice b2 us.length d2, .int .i64 v', .int .i64 k'] 34) := ⟨_, rfl⟩
  have c4 : Below w4.heap.size w4 X4 := by rw [hX4]; exact below_new _ _
  have d4 : Below X2.heap.size X2 X4 := hb.trans (c4.mono hb.size)
  have N4 : Hid (Below w4.heap.size w4 X4) := c4
  have M4 : Hid (Below w2.heap.size w2 X4) := N2.out.trans (d4.mono N2.out.size)
  have O4 : Hid (OneOwn w4 X2.heap.size ⟨0, ⟨n', p', q', zs, us, v', k'⟩, b1, d1, b2, d2⟩) := ho
  have F4 : Hid ((zs.length ≤ 4 ∧ us.length ≤ 4) ∧ FitsE ⟨n', p', q', zs, us, v', k'⟩) := ⟨hl, hf⟩
  have X2c : Hid (Blk X4 w2.heap.size _ _) := X2b.out.keep d4
  have e4 : Below W.heap.size W X4 := B2.out.trans (d4.mono B2.out.size)
  have ZA4 : Hid (Blk X4 w.heap.size _ _) := ZA.out.keep e4
  have ZB4 : Hid (Blk X4 (w.heap.size + 1) _ _) := ZB.out.keep e4
  have X4b : Hid (Blk X4 w4.heap.size #[.bool n', .int .i64 p', .int .i64 q', .slice b1 zs.length d1, .slice b2 us.length d2, .int .i64 v', .int .i64 k'] 34) := by show Blk _ _ _ _; rw [hX4]; exact Blk.new _ _ _
  have W4 : Hid (Below w.heap.size w X4) := BW.out.trans (e4.mono BW.out.size)
  have NN : Hid (w.heap.size + 1 < w2.heap.size ∧ w2.heap.size < X2.heap.size ∧ X2.heap.size ≤ w4.heap.size) := ⟨by have := G2.out; have := SW.out; omega, X2b.out.lt, hb.size⟩
  have HX4 : Hid (X4 = _) := hX4
  clear hX4 c4 d4 hb ho hl hf e4
  have FIN : Hid (∀ (W' : World) (q'' : Int), FitsE ⟨n', p', q'', zs, us, v', k'⟩ → Turned [w.heap.size, w.heap.size + 1, w4.heap.size] X4 W' → TwoEnts w W' (.returned (.tuple #[.agg #[.bool n, .int .i64 p, .int .i64 q, .slice a1 xs.length c1, .slice a2 ys.length c2, .int .i64 v, .int .i64 k], .agg #[.bool n', .int .i64 p', .int .i64 q'', .slice b1 zs.length d1, .slice b2 us.length d2, .int .i64 v', .int .i64 k']]))) := by
    intro W' q'' hq ht
    have nn := NN.out
    have sw := SW.out
    refine ⟨_, _, _, _, _, _, _, _, _, _, _, _, _, _, _, _, _, _, _, _, _, _, rfl, ⟨⟨_, O2.out.turned M4.out ht fun b h1 h2 hx => ?_⟩, F2.out⟩, ⟨⟨_, (O4.out.turned N4.out ht fun b h1 h2 hx => ?_).as _ _ _ _ _ _⟩, F4.out.1, hq⟩, W4.out.trans (ht.below (fun x hx => ?_) W4.out.size)⟩
    · simp at hx; omega
    · simp at hx; omega
    · simp at hx; omega
  obtain ⟨x0, x1, x2, x3, x4, x5, x6⟩ := X2c.out.cells7
  obtain ⟨u0, u1, u2, u3, u4, u5, u6⟩ := X4b.out.cells7
  obtain ⟨z0, z1, z2, z3, z4, z5, z6⟩ := ZA4.out.cells7
  obtain ⟨y0, y1, y2, y3, y4, y5, y6⟩ := ZB4.out.cells7
  have fu := X4b.out.frozen
  have fz := ZA4.out.frozen
  have fy := ZB4.out.frozen
  have HB4 : Hid (Bytes X4 X4.heap.size a m) := HB.out.belowF W4.out
  have n1 : ¬ w4.heap.size = w.heap.size := by have := NN.out; omega
  have n2 : ¬ w4.heap.size = w.heap.size + 1 := by have := NN.out; omega
  have n3 : ¬ w.heap.size = w4.heap.size := by have := NN.out; omega
  have n4 : ¬ w.heap.size + 1 = w4.heap.size := by have := NN.out; omega
  have n5 : ¬ w4.heap.size = w2.heap.size := by have := NN.out; omega
  have n6 : ¬ w2.heap.size = w.heap.size := by have := NN.out; omega
  have n7 : ¬ w2.heap.size = w.heap.size + 1 := by have := NN.out; omega
  go_upto_region 3 with fail
  rw [← HX4.out]
  clear HX4 HX2 HW BW SW ZA ZB B2 X2b G2
  by_cases hn0 : m = 0
  · subst hn0
    go_wp2
    go_region
    all_goals
      go_wp2
      refine bodyPost_ret (v := .tuple #[.agg #[.bool n, .int .i64 p, .int .i64 q, .slice a1 xs.length c1, .slice a2 ys.length c2, .int .i64 v, .int .i64 k], .agg #[.bool n', .int .i64 p', .int .i64 q', .slice b1 zs.length d1, .slice b2 us.length d2, .int .i64 v', .int .i64 k']]) (by simp [results, Tryd.results16, go_sem, z0, z1, z2, z3, z4, z5, z6, y0, y1, y2, y3, y4, y5, y6, n1, n2, n3, n4, n5, n6, n7]) rfl ?_
      refine FIN.out _ _ F4.out.2 ?_
      repeat (first | (with_reducible exact Turned.refl _ _) | (with_reducible refine Turned.set ?_ (by simp) _) | (with_reducible refine Turned.drew ?_) | (with_reducible refine Turned.drewN ?_ _))
  · have g0 : decide ((0 : Int) < (m : Int)) = true := by simp; omega
    have g1 : (0 : Int) < (m : Int) := by omega
    rcases HB4.out with h | ⟨b, off, rfl, hlt, hz⟩
    · omega
    obtain ⟨z, hz1, hz2⟩ := hz 0 (by omega)
    rw [Nat.add_zero] at hz2
    clear hz
    cases t : ((z : Int) % 2 == 1) with
    | false =>
      go_wp2
      go_region
      all_goals
        go_wp2
        refine bodyPost_ret (v := .tuple #[.agg #[.bool n, .int .i64 p, .int .i64 q, .slice a1 xs.length c1, .slice a2 ys.length c2, .int .i64 v, .int .i64 k], .agg #[.bool n', .int .i64 p', .int .i64 q', .slice b1 zs.length d1, .slice b2 us.length d2, .int .i64 v', .int .i64 k']]) (by simp [results, Tryd.results16, go_sem, z0, z1, z2, z3, z4, z5, z6, y0, y1, y2, y3, y4, y5, y6, n1, n2, n3, n4, n5, n6, n7]) rfl ?_
        refine FIN.out _ _ F4.out.2 ?_
        repeat (first | (with_reducible exact Turned.refl _ _) | (with_reducible refine Turned.set ?_ (by simp) _) | (with_reducible refine Turned.drew ?_) | (with_reducible refine Turned.drewN ?_ _))
    | true =>
      go_wp2
      go_region
      all_goals
        go_wp2
        refine bodyPost_ret (v := .tuple #[.agg #[.bool n, .int .i64 p, .int .i64 q, .slice a1 xs.length c1, .slice a2 ys.length c2, .int .i64 v, .int .i64 k], .agg #[.bool n', .int .i64 p', .int .i64 (wrap64 (q' + 1)), .slice b1 zs.length d1, .slice b2 us.length d2, .int .i64 v', .int .i64 k']]) (by simp [results, Tryd.results16, go_sem, z0, z1, z2, z3, z4, z5, z6, y0, y1, y2, y3, y4, y5, y6, n1, n2, n3, n4, n5, n6, n7]) rfl ?_
        refine FIN.out _ _ F4.out.2.next ?_
        repeat (first | (with_reducible exact Turned.refl _ _) | (with_reducible refine Turned.set ?_ (by simp) _) | (with_reducible refine Turned.drew ?_) | (with_reducible refine Turned.drewN ?_ _))
end Go.Proofs.YtokbakphfodabaaDoor.Own

namespace Go.Proofs.YtokbakphfodabaaDoor.Own
open Go.RowKit

def eq2 (p q : P2) : Bool := p.1 == q.1 && p.2 == q.2
theorem eq2_iff (p q : P2) : eq2 p q = true ↔ p = q := by
  obtain ⟨a, b⟩ := p
  obtain ⟨a', b'⟩ := q
  simp [eq2]
theorem eq2_false (p q : P2) : eq2 p q = false ↔ p ≠ q := by
  rw [← Bool.not_eq_true, eq2_iff]

/-- Two runs are one. -/
def sameRun (xs ys zs us : List P2) (v k v' k' : Int) : Bool := k == k' && v == v' && xs == zs && ys == us
end Go.Proofs.YtokbakphfodabaaDoor.Own

namespace Go.Proofs.YtokbakphfodabaaDoor.Own
open Go.RowKit
set_option linter.unusedVariables false

theorem eqRead1 (d : Nat) (a b a' b' : Int) (w : World) : (Op.equalIn (d+2) 101 (.agg #[.int .i64 a, .int .i64 b]) (.agg #[.int .i64 a', .int .i64 b'])).run Tryd.prog w = .ok (eq2 (a, b) (a', b')) w := by
  unfold eq2
  go_simp
  by_cases h : a = a'
  · by_cases h1 : b = b' <;> simp [h, h1]
  · simp [h]
theorem neqRead (a b a' b' : Int) (w : World) : (binOp .neq 101 (.agg #[.int .i64 a, .int .i64 b]) (.agg #[.int .i64 a', .int .i64 b'])).run Tryd.prog w = .ok (.bool (!(eq2 (a, b) (a', b')))) w := by
  rw [run_neq_struct, eqRead1 9998]; rfl

set_option maxRecDepth 100000 in
set_option maxHeartbeats 1000000 in
theorem equalRead (a1 a2 : Option Addr) (c1 c2 : Nat) (xs ys : List P2) (w : World) (h1 : Sl w a1 xs) (h2 : Sl w a2 ys) (l1 : xs.length ≤ 2 ^ 40) (l2 : ys.length ≤ 2 ^ 40) :
    Calls Tryd.prog 77 #[.slice a1 xs.length c1, .slice a2 ys.length c2] w fun e w' => e = .returned (.bool (xs == ys)) ∧ Below w.heap.size w w' := by
  have H1 : Hid (Sl w a1 xs) := h1
  have H2 : Hid (Sl w a2 ys) := h2
  clear h1 h2
  by_cases hl : xs.length = ys.length
  · have hl' : ((xs.length : Int) != (ys.length : Int)) = false := by simp [hl]
    have Hl : Hid (xs.length = ys.length) := hl
    clear hl
    go_enter Tryd.func77, Tryd.ntmps77
    go_wp2
    go_loopw [13] (fun i wr => ∃ k : Nat, k ≤ xs.length ∧ i = .int .i64 k ∧ Hid (xs.take k = ys.take k) ∧ Below w.heap.size w wr) (fun i _ => xs.length - (intOf i).toNat)
    case atStart => exact ⟨0, Nat.zero_le _, rfl, rfl, Below.refl _ _⟩
    case round =>
      obtain ⟨k, hk, rfl, hE, hB⟩ := hrel
      by_cases hlt : k < xs.length
      · have hlt2 : k < ys.length := by rw [← Hl.out]; exact hlt
        rcases H1.out with h | ⟨b1, o1, rfl, h1⟩
        · subst h; simp at hlt
        rcases H2.out with h | ⟨b2, o2, rfl, h2⟩
        · subst h; simp at hlt2
        have H1' : Hid (BoxAt w b1 o1 xs) := h1
        have H2' : Hid (BoxAt w b2 o2 ys) := h2
        clear h1 h2
        have HT : Hid ((xs.take (k + 1) = ys.take (k + 1)) ↔ (xs.getD k (0, 0) = ys.getD k (0, 0))) := by
          unfold Hid; rw [take_succ_eqG (0, 0) hlt hlt2]; exact ⟨fun h => h.2, fun h => ⟨hE, h⟩⟩
        obtain ⟨p, hp⟩ : ∃ p, p = xs.getD k (0, 0) := ⟨_, rfl⟩
        obtain ⟨q, hq⟩ : ∃ q, q = ys.getD k (0, 0) := ⟨_, rfl⟩
        obtain ⟨ca, cb⟩ := H1'.out.2 k hlt
        obtain ⟨da, db⟩ := H2'.out.2 k hlt2
        rw [← hB.cell H1'.out.1, ← hp] at ca cb
        rw [← hB.cell H2'.out.1, ← hq] at da db
        have HP : Hid (p = xs.getD k (0, 0)) := hp
        have HQ : Hid (q = ys.getD k (0, 0)) := hq
        clear hp hq
        obtain ⟨p1, p2⟩ := p
        obtain ⟨q1, q2⟩ := q
        have HB : Hid (Below w.heap.size w wr) := hB
        clear hB
        have hne := fun w => neqRead p1 p2 q1 q2 w
        by_cases hpq : eq2 (p1, p2) (q1, q2) = true
        · have N : Hid (xs.take (k + 1) = ys.take (k + 1)) := by
            show _ = _
            apply HT.out.2
            rw [← HP.out, ← HQ.out]
            exact (eq2_iff _ _).1 hpq
          rw [hpq] at hne
          go_wp2
          go_quiet (fail)
          go_wp2
          go_roundw
          case rel => exact ⟨k + 1, by omega, by go_num, N, below_drewN HB.out _⟩
          case measure => simp [intOf]; omega
        · have hpq' : eq2 (p1, p2) (q1, q2) = false := by simpa using hpq
          have F : Hid ((xs == ys) = false) := by
            show _ = _
            apply ne_of_getDG (k := k) (0, 0)
            rw [← HP.out, ← HQ.out]
            exact (eq2_false _ _).1 hpq'
          clear hpq
          rw [hpq'] at hne
          go_wp2
          go_quiet (fail)
          go_wp2
          go_ret
          exact ⟨ret_bool F.out.symm, below_drewN HB.out _⟩
      · go_wp2
        go_ret
        have : k = xs.length := by omega
        subst this
        refine ⟨ret_bool ?_, hB⟩
        have h := hE
        unfold Hid at h
        rw [List.take_length] at h
        have h3 := Hl.out
        rw [List.take_of_length_le (by omega)] at h
        simp [h]
  · have hl' : ((xs.length : Int) != (ys.length : Int)) = true := by simp; omega
    go_enter Tryd.func77, Tryd.ntmps77
    go_wp2
    go_ret
    refine ⟨ret_bool ?_, Below.refl _ _⟩
    symm
    simp
    intro h; exact hl (by rw [h])
end Go.Proofs.YtokbakphfodabaaDoor.Own

namespace Go.Proofs.YtokbakphfodabaaDoor.Own
open Go.RowKit
set_option linter.unusedVariables false

/-- Two entries are one. -/
def likeE (n n' : Bool) (p p' : P2) (xs ys zs us : List P2) (v k v' k' : Int) : Bool := n == n' && eq2 p p' && sameRun xs ys zs us v k v' k'
theorem likeE_none {n n' : Bool} (p p' : P2) (xs ys zs us : List P2) (v k v' k' : Int) (h : (n == n') = false) : likeE n n' p p' xs ys zs us v k v' k' = false := by simp [likeE, h]
theorem likeE_req {n n' : Bool} {p p' : P2} (xs ys zs us : List P2) (v k v' k' : Int) (h : eq2 p p' = false) : likeE n n' p p' xs ys zs us v k v' k' = false := by simp [likeE, h]
theorem likeE_run {n n' : Bool} {p p' : P2} (xs ys zs us : List P2) (v k v' k' : Int) (h : (n == n') = true) (h2 : eq2 p p' = true) : likeE n n' p p' xs ys zs us v k v' k' = sameRun xs ys zs us v k v' k' := by simp [likeE, h, h2]

theorem eqReq1 (d : Nat) (a b a' b' : Int) (w : World) : (Op.equalIn (d+2) 28 (.agg #[.int .i64 a, .int .i64 b]) (.agg #[.int .i64 a', .int .i64 b'])).run Tryd.prog w = .ok (eq2 (a, b) (a', b')) w := by
  unfold eq2
  go_simp
  by_cases h : a = a'
  · by_cases h1 : b = b' <;> simp [h, h1]
  · simp [h]
theorem eqlReq (a b a' b' : Int) (w : World) : (binOp .eql 28 (.agg #[.int .i64 a, .int .i64 b]) (.agg #[.int .i64 a', .int .i64 b'])).run Tryd.prog w = .ok (.bool (eq2 (a, b) (a', b'))) w := by
  rw [run_eql_struct, eqReq1 9998]; rfl
end Go.Proofs.YtokbakphfodabaaDoor.Own

namespace Go.Proofs.YtokbakphfodabaaDoor.Own
open Go.RowKit
set_option linter.unusedVariables false

theorem eqPut1 (d : Nat) (a b a' b' : Int) (w : World) : (Op.equalIn (d+2) 56 (.agg #[.int .i64 a, .int .i64 b]) (.agg #[.int .i64 a', .int .i64 b'])).run Tryd.prog w = .ok (eq2 (a, b) (a', b')) w := by
  unfold eq2
  go_simp
  by_cases h : a = a'
  · by_cases h1 : b = b' <;> simp [h, h1]
  · simp [h]
theorem neqPut (a b a' b' : Int) (w : World) : (binOp .neq 56 (.agg #[.int .i64 a, .int .i64 b]) (.agg #[.int .i64 a', .int .i64 b'])).run Tryd.prog w = .ok (.bool (!(eq2 (a, b) (a', b')))) w := by
  rw [run_neq_struct, eqPut1 9998]; rfl

set_option maxRecDepth 100000 in
set_option maxHeartbeats 1000000 in
theorem equalPut (a1 a2 : Option Addr) (c1 c2 : Nat) (xs ys : List P2) (w : World) (h1 : Sl w a1 xs) (h2 : Sl w a2 ys) (l1 : xs.length ≤ 2 ^ 40) (l2 : ys.length ≤ 2 ^ 40) :
    Calls Tryd.prog 78 #[.slice a1 xs.length c1, .slice a2 ys.length c2] w fun e w' => e = .returned (.bool (xs == ys)) ∧ Below w.heap.size w w' := by
  have H1 : Hid (Sl w a1 xs) := h1
  have H2 : Hid (Sl w a2 ys) := h2
  clear h1 h2
  by_cases hl : xs.length = ys.length
  · have hl' : ((xs.length : Int) != (ys.length : Int)) = false := by simp [hl]
    have Hl : Hid (xs.length = ys.length) := hl
    clear hl
    go_enter Tryd.func78, Tryd.ntmps78
    go_wp2
    go_loopw [13] (fun i wr => ∃ k : Nat, k ≤ xs.length ∧ i = .int .i64 k ∧ Hid (xs.take k = ys.take k) ∧ Below w.heap.size w wr) (fun i _ => xs.length - (intOf i).toNat)
    case atStart => exact ⟨0, Nat.zero_le _, rfl, rfl, Below.refl _ _⟩
    case round =>
      obtain ⟨k, hk, rfl, hE, hB⟩ := hrel
      by_cases hlt : k < xs.length
      · have hlt2 : k < ys.length := by rw [← Hl.out]; exact hlt
        rcases H1.out with h | ⟨b1, o1, rfl, h1⟩
        · subst h; simp at hlt
        rcases H2.out with h | ⟨b2, o2, rfl, h2⟩
        · subst h; simp at hlt2
        have H1' : Hid (BoxAt w b1 o1 xs) := h1
        have H2' : Hid (BoxAt w b2 o2 ys) := h2
        clear h1 h2
        have HT : Hid ((xs.take (k + 1) = ys.take (k + 1)) ↔ (xs.getD k (0, 0) = ys.getD k (0, 0))) := by
          unfold Hid; rw [take_succ_eqG (0, 0) hlt hlt2]; exact ⟨fun h => h.2, fun h => ⟨hE, h⟩⟩
        obtain ⟨p, hp⟩ : ∃ p, p = xs.getD k (0, 0) := ⟨_, rfl⟩
        obtain ⟨q, hq⟩ : ∃ q, q = ys.getD k (0, 0) := ⟨_, rfl⟩
        obtain ⟨ca, cb⟩ := H1'.out.2 k hlt
        obtain ⟨da, db⟩ := H2'.out.2 k hlt2
        rw [← hB.cell H1'.out.1, ← hp] at ca cb
        rw [← hB.cell H2'.out.1, ← hq] at da db
        have HP : Hid (p = xs.getD k (0, 0)) := hp
        have HQ : Hid (q = ys.getD k (0, 0)) := hq
        clear hp hq
        obtain ⟨p1, p2⟩ := p
        obtain ⟨q1, q2⟩ := q
        have HB : Hid (Below w.heap.size w wr) := hB
        clear hB
        have hne := fun w => neqPut p1 p2 q1 q2 w
        by_cases hpq : eq2 (p1, p2) (q1, q2) = true
        · have N : Hid (xs.take (k + 1) = ys.take (k + 1)) := by
            show _ = _
            apply HT.out.2
            rw [← HP.out, ← HQ.out]
            exact (eq2_iff _ _).1 hpq
          rw [hpq] at hne
          go_wp2
          go_quiet (fail)
          go_wp2
          go_roundw
          case rel => exact ⟨k + 1, by omega, by go_num, N, below_drewN HB.out _⟩
          case measure => simp [intOf]; omega
        · have hpq' : eq2 (p1, p2) (q1, q2) = false := by simpa using hpq
          have F : Hid ((xs == ys) = false) := by
            show _ = _
            apply ne_of_getDG (k := k) (0, 0)
            rw [← HP.out, ← HQ.out]
            exact (eq2_false _ _).1 hpq'
          clear hpq
          rw [hpq'] at hne
          go_wp2
          go_quiet (fail)
          go_wp2
          go_ret
          exact ⟨ret_bool F.out.symm, below_drewN HB.out _⟩
      · go_wp2
        go_ret
        have : k = xs.length := by omega
        subst this
        refine ⟨ret_bool ?_, hB⟩
        have h := hE
        unfold Hid at h
        rw [List.take_length] at h
        have h3 := Hl.out
        rw [List.take_of_length_le (by omega)] at h
        simp [h]
  · have hl' : ((xs.length : Int) != (ys.length : Int)) = true := by simp; omega
    go_enter Tryd.func78, Tryd.ntmps78
    go_wp2
    go_ret
    refine ⟨ret_bool ?_, Below.refl _ _⟩
    symm
    simp
    intro h; exact hl (by rw [h])
end Go.Proofs.YtokbakphfodabaaDoor.Own
