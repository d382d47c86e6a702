/-
  Own text: the library's table, and what strconv.Itoa does.
-/
import Derived.Test.YtildonpdmmliaaaGreatDoorDecMath
import Derived.Test.YtildonpdmmliaaaGreatDoorBuilder
import Derived.Test.YtildonpdmmliaaaGreatDoorShelf
import Derived.WalkSmall
import Derived.Lib.AppendIntMem
namespace Go.Proofs.YtildonpdmmliaaaGreatDoor.Own
open Go.RowKit
set_option linter.unusedVariables false
set_option linter.unusedSimpArgs false

/-- The library's table reads as its text lays it. -/
def Tab (w : World) : Prop := Lib.TabIs Tryz.prog w "internal/strconv.uint64pow10" .u64 Lib.pow10Tab

theorem tab_lt {w : World} (h : Tab w) {g : Nat} (hg : Tryz.prog.globalNamed "internal/strconv.uint64pow10" = some g) : g < w.heap.size := by
  unfold Tab Lib.TabIs World.var? at h
  simp only [hg, Option.bind_some] at h
  cases hq : w.heap[g]? with
  | none => simp [hq] at h
  | some o => exact (Array.getElem?_eq_some_iff.1 hq).1

theorem tab_named {w : World} (h : Tab w) : ∃ g, Tryz.prog.globalNamed "internal/strconv.uint64pow10" = some g := by
  unfold Tab Lib.TabIs World.var? at h
  cases hq : Tryz.prog.globalNamed "internal/strconv.uint64pow10" with
  | none => simp [hq] at h
  | some g => exact ⟨g, rfl⟩

theorem tab_below {w0 w w' : World} {B : Nat} (h0 : Tab w0) (h : Tab w) (hb : Below B w w') (hB : w0.heap.size ≤ B) : Tab w' := by
  obtain ⟨g, hg⟩ := tab_named h
  exact var?_below hb hg (Nat.lt_of_lt_of_le (tab_lt h0 hg) hB) h

theorem itoa_len (n : Int) (h : Fits n) : (Lib.itoa n).length ≤ 21 := Lib.itoa_length_le n h.1 h.2

set_option maxHeartbeats 1000000 in
theorem itoaC (n : Int) (w : World) (h : Fits n) (ht : Tab w) : Calls Tryz.prog 55 #[.int .i64 n] w fun e w' => e = .returned (.string (str (Lib.itoa n))) ∧ Below w.heap.size w w' := by
  refine (Tryz.strconv_Itoa n h.1 h.2 w ht).mono ?_
  rintro e w' ⟨rfl, k, os, rfl⟩
  exact ⟨rfl, Lib.below_grow _ w (Nat.le_refl _) k os⟩


theorem ownsRow_keep {w w' : World} {B e s n : Nat} {v : Value} {xs : List Value} (h : w.ownsRow B e s v n xs) (hb : Below w.heap.size w w') : w'.ownsRow B e s v n xs := by
  obtain ⟨h1, h2⟩ := h
  refine ⟨h1, ?_⟩
  rcases h2 with h2 | ⟨g, cap, cur, hv, hg, hh, r⟩
  · exact .inl h2
  · exact .inr ⟨g, cap, cur, hv, hg, by rw [hb.block g (Array.getElem?_eq_some_iff.1 hh).1]; exact hh, r⟩

theorem builderAt_keep {T e : TypeId} {B b : Nat} {p : Value} {bs : List Value} {w w' : World} (h : Lib.BuilderAt T e B b p bs w) (hb : Below w.heap.size w w') : Lib.BuilderAt T e B b p bs w' := by
  have hlt := h.lt
  obtain ⟨hB, v, hh, hown, hne⟩ := h
  exact ⟨hB, v, by rw [hb.block b hlt]; exact hh, ownsRow_keep hown hb, hne⟩

theorem isBuilder_keep {T e : TypeId} {B b : Nat} {bs : List Value} {w w' : World} (h : Lib.IsBuilder T e B b bs w) (hb : Below w.heap.size w w') : Lib.IsBuilder T e B b bs w' :=
  h.elim (fun x => .inl (builderAt_keep x hb)) (fun x => .inr (builderAt_keep x hb))

theorem cells_snoc (l m : List UInt8) : Lib.byteCells l ++ Lib.strCells (str m) = Lib.byteCells (l ++ m) := by
  rw [Lib.byteCells_append]; simp [Lib.strCells, Lib.byteCells, str_list]

theorem cells_space (l : List UInt8) : Lib.byteCells l ++ [Value.int .u8 32] = Lib.byteCells (l ++ [32]) := by
  rw [Lib.byteCells_append]; rfl

end Go.Proofs.YtildonpdmmliaaaGreatDoor.Own
