/-
  Own text: what (impl.Box).text, impl.BoxText and spec.BoxText do.
-/
import Derived.Test.YtipbabkbmiaalaaDoorDec
import Derived.Test.YtipbabkbmiaalaaDoorBuilder
import Derived.Test.YtipbabkbmiaalaaDoorShelf
import Derived.WalkSmall
import Derived.Lib.AppendIntMem
namespace Go.Proofs.YtipbabkbmiaalaaDoor.Own
open Go.RowKit
set_option linter.unusedVariables false
set_option linter.unusedSimpArgs false

/-- The library's table reads as its text lays it. -/
def Tab (w : World) : Prop := Lib.TabIs Tryd.prog w "internal/strconv.uint64pow10" .u64 Lib.pow10Tab

theorem tab_lt {w : World} (h : Tab w) {g : Nat} (hg : Tryd.prog.globalNamed "internal/strconv.uint64pow10" = some g) : g < w.heap.size := by
  unfold Tab Lib.TabIs World.var? at h
  simp only [hg, Option.bind_some] at h
  cases hq : w.heap[g]? with
  | none => simp [hq] at h
  | some o => exact (Array.getElem?_eq_some_iff.1 hq).1

theorem tab_named {w : World} (h : Tab w) : ∃ g, Tryd.prog.globalNamed "internal/strconv.uint64pow10" = some g := by
  unfold Tab Lib.TabIs World.var? at h
  cases hq : Tryd.prog.globalNamed "internal/strconv.uint64pow10" with
  | none => simp [hq] at h
  | some g => exact ⟨g, rfl⟩

theorem tab_below {w0 w w' : World} {B : Nat} (h0 : Tab w0) (h : Tab w) (hb : Below B w w') (hB : w0.heap.size ≤ B) : Tab w' := by
  obtain ⟨g, hg⟩ := tab_named h
  exact var?_below hb hg (Nat.lt_of_lt_of_le (tab_lt h0 hg) hB) h

def Fits (n : Int) : Prop := -9223372036854775808 ≤ n ∧ n ≤ 9223372036854775807
def Wf (xs : List (Int × Int)) : Prop := ∀ k, k < xs.length → Fits (xs.getD k (0, 0)).1 ∧ Fits (xs.getD k (0, 0)).2

def boxText1 (p : Int × Int) : List UInt8 := Lib.itoa p.2 ++ (47 :: Lib.itoa p.1)
/-- The text of the first k boxes. -/
def textTo (xs : List (Int × Int)) : Nat → List UInt8
  | 0 => []
  | k + 1 => textTo xs k ++ ((if k = 0 then [] else [32]) ++ boxText1 (xs.getD k (0, 0)))

theorem itoa_len (n : Int) (h : Fits n) : (Lib.itoa n).length ≤ 21 := Lib.itoa_length_le n h.1 h.2
theorem text1_len (p : Int × Int) (h1 : Fits p.1) (h2 : Fits p.2) : (boxText1 p).length ≤ 43 := by
  have := itoa_len _ h1; have := itoa_len _ h2
  simp [boxText1]; omega
theorem textTo_len (xs : List (Int × Int)) (h : Wf xs) (k : Nat) (hk : k ≤ xs.length) : (textTo xs k).length ≤ 44 * k := by
  induction k with
  | zero => simp [textTo]
  | succ k ih =>
    have := ih (by omega)
    have := text1_len _ (h k (by omega)).1 (h k (by omega)).2
    simp only [textTo, List.length_append]
    generalize (boxText1 (xs.getD k (0, 0))).length = z at *
    split <;> simp <;> omega

set_option maxHeartbeats 1000000 in
theorem itoaC (n : Int) (w : World) (h : Fits n) (ht : Tab w) : Calls Tryd.prog 47 #[.int .i64 n] w fun e w' => e = .returned (.string (str (Lib.itoa n))) ∧ Below w.heap.size w w' := by
  refine (Tryd.strconv_Itoa n h.1 h.2 w ht).mono ?_
  rintro e w' ⟨rfl, k, os, rfl⟩
  exact ⟨rfl, Lib.below_grow _ w (Nat.le_refl _) k os⟩

set_option maxHeartbeats 2000000 in
theorem implText1 (a b : Int) (w : World) (ha : Fits a) (hb : Fits b) (ht : Tab w) :
    Calls Tryd.prog 29 #[.agg #[.int .i64 a, .int .i64 b]] w fun e w' => e = .returned (.string (str (boxText1 (a, b)))) ∧ Below w.heap.size w w' := by
  obtain ⟨s1, e1⟩ : ∃ s, s = str (Lib.itoa b) := ⟨_, rfl⟩
  obtain ⟨s2, e2⟩ : ∃ s, s = str (Lib.itoa a) := ⟨_, rfl⟩
  have z1 : s1.size ≤ 21 := by rw [e1, str_size]; exact itoa_len b hb
  have z2 : s2.size ≤ 21 := by rw [e2, str_size]; exact itoa_len a ha
  have E1 : Hid (s1 = str (Lib.itoa b)) := e1
  have E2 : Hid (s2 = str (Lib.itoa a)) := e2
  have HT : Hid (Tab w) := ht
  clear e1 e2 ht
  obtain ⟨X, hX⟩ : ∃ X, X = w.alloc (.cells #[.int .i64 a, .int .i64 b] 48) := ⟨_, rfl⟩
  have hX0 : Hid (X.heap[w.heap.size]? = some (.cells #[.int .i64 a, .int .i64 b] 48)) := by show _ = _; rw [hX]; exact heap_new _ _
  have hXs : Hid (X.heap.size = w.heap.size + 1) := by show _ = _; rw [hX]; exact size_new _ _
  have hXb : Hid (Below w.heap.size w X) := by show Below _ _ _; rw [hX]; exact (Below.refl _ _).alloc (Nat.le_refl _) _
  have HX : Hid (X = w.alloc (.cells #[.int .i64 a, .int .i64 b] 48)) := hX
  have T : Hid (∀ W : World, Below X.heap.size X W → Tab W) := by
    intro W hW
    exact tab_below HT.out HT.out (hXb.out.trans (hW.mono hXb.out.size)) (Nat.le_refl _)
  have C1 : Hid (∀ W : World, Below X.heap.size X W → Calls Tryd.prog 47 #[.int .i64 b] W fun e w' => e = .returned (.string s1) ∧ Below W.heap.size W w') := by
    intro W hW
    rw [E1.out]
    exact itoaC b W hb (T.out W hW)
  have C2 : Hid (∀ W : World, Below X.heap.size X W → Calls Tryd.prog 47 #[.int .i64 a] W fun e w' => e = .returned (.string s2) ∧ Below W.heap.size W w') := by
    intro W hW
    rw [E2.out]
    exact itoaC a W ha (T.out W hW)
  have HK : Hid (∀ W : World, Below X.heap.size X W → W.cell? ⟨w.heap.size, 0, none⟩ = some (.int .i64 a) ∧ W.cell? ⟨w.heap.size, 1, none⟩ = some (.int .i64 b)) := by
    intro W h
    have e : W.heap[w.heap.size]? = some (.cells #[.int .i64 a, .int .i64 b] 48) := (h.block _ (by rw [hXs.out]; omega)).trans hX0.out
    exact ⟨by rw [cell_heap e]; rfl, by rw [cell_heap e]; rfl⟩
  obtain ⟨k0, k1⟩ := HK.out X (Below.refl _ _)
  clear hX
  go_enter Tryd.func29, Tryd.ntmps29
  go_wp2
  rw [← HX.out]
  go_region_with (first | (go_at_call_of 47 (Value.int IntKind.i64 b); refine (C1.out _ ?_).mono ?_; exact Below.drew (Below.refl _ _); rintro e w1 ⟨rfl, hb1⟩; have hx1 : Hid (Below X.heap.size X w1) := Below.trans (Below.drew (Below.refl _ _)) hb1; obtain ⟨l0, l1⟩ := HK.out w1 hx1.out; clear hb1) | (go_at_call_of 47 (Value.int IntKind.i64 a); refine (C2.out _ ?_).mono ?_; exact hx1.out; rintro e w2 ⟨rfl, hb2⟩; have hx2 : Hid (Below X.heap.size X w2) := hx1.out.trans (hb2.mono hx1.out.size); clear hb2))
  all_goals
    go_wp2
    go_ret
    refine ⟨ret_str ?_, hXb.out.trans (hx2.out.mono hXb.out.size)⟩
    rw [E1.out, E2.out]
    apply str_eq
    simp only [list_append, str_list, boxText1]
    simp
end Go.Proofs.YtipbabkbmiaalaaDoor.Own
