/-
  Own texts, bundled: Base, DecMath, Builder, Itoa, Mem, OkNum, Base4, ProgOk2, ExecMath, BoxBlk, Blk.
-/
import Derived.Test.YtokbakphfodabaaDoorRows
import Derived.WalkKit
import Derived.WalkSpells
import Derived.WalkLawsBesides
import Derived.Outline
import Derived.Deep.RegionWith
import Derived.Deep.LoopGhost
import Derived.Lib.ItoaNum
import Derived.Lib.ItoaLen
import Derived.Laws.IdiomStrings
import Derived.Laws.BytesString
import Derived.Laws.Concat
import Derived.Lib.Builder
import Derived.Lib.AppendStr
import Derived.Lib.UnsafeStr
import Derived.Lib.OthersKept
import Derived.Laws.Externs
import Derived.OwnWalk
import Derived.Test.YtokbakphfodabaaDoorShelf
import Derived.WalkSmall
import Derived.Lib.AppendIntMem
import Derived.Laws.CopyOwn
namespace Go.Proofs.YtokbakphfodabaaDoor.Own
open Go.RowKit

theorem ret_bool {a b : Bool} (h : a = b) : Ending.returned (.bool a) = .returned (.bool b) := by rw [h]
theorem ret_int {k : IntKind} {a b : Int} (h : a = b) : Ending.returned (.int k a) = .returned (.int k b) := by rw [h]

theorem heap_new (w : World) (o : Obj) : (w.alloc o).heap[w.heap.size]? = some o := by
  show (w.heap.push o)[w.heap.size]? = _
  simp
theorem size_new (w : World) (o : Obj) : (w.alloc o).heap.size = w.heap.size + 1 := by
  show (w.heap.push o).size = _
  simp
theorem heap_old (w : World) (o : Obj) (k : Nat) (h : k < w.heap.size) : (w.alloc o).heap[k]? = w.heap[k]? := Below.heap_alloc w o k h
theorem heap_new2 (w : World) (o o' : Obj) : ((w.alloc o).alloc o').heap[w.heap.size + 1]? = some o' := by
  have := heap_new (w.alloc o) o'
  rwa [size_new] at this
theorem heap_new1 (w : World) (o o' : Obj) : ((w.alloc o).alloc o').heap[w.heap.size]? = some o := by
  rw [heap_old _ _ _ (by rw [size_new]; omega)]; exact heap_new w o
theorem cell_heap {w : World} {b : Nat} {c : Array Value} {t : TypeId} {f : Nat × Nat} (h : w.heap[b]? = some (.cells c t f)) (o : Nat) : w.cell? ⟨b, o, none⟩ = c[o]? := by
  simp [World.cell?, h]
theorem frozen_heap {w : World} {b : Nat} {c : Array Value} {t : TypeId} (h : w.heap[b]? = some (.cells c t (0, 0))) (o : Nat) : w.frozen? ⟨b, o, none⟩ = false := by
  simp [World.frozen?, h]

/-- Block b alone may have turned; what is frozen is as it was. -/
structure Only (b : Nat) (w w' : World) : Prop where
  os : w'.os = w.os
  tape : w'.tape = w.tape
  output : w'.output = w.output
  size : w'.heap.size = w.heap.size
  block : ∀ k, k ≠ b → w'.heap[k]? = w.heap[k]?
  frozen : ∀ o, w'.frozen? ⟨b, o, none⟩ = w.frozen? ⟨b, o, none⟩

theorem Only.refl (b : Nat) (w : World) : Only b w w := ⟨rfl, rfl, rfl, rfl, fun _ _ => rfl, fun _ => rfl⟩

theorem Only.setCell {b o : Nat} {a w : World} (h : Only b a w) (v : Value) : Only b a (w.setCell ⟨b, o, none⟩ v) := by
  refine ⟨h.os, h.tape, h.output, ?_, ?_, ?_⟩
  · simpa [World.setCell] using h.size
  · intro k hk
    rw [Below.heap_setCell _ _ _ _ hk]; exact h.block k hk
  · intro j
    rw [← h.frozen j]; simp

theorem Only.cell {b : Nat} {w w' : World} (h : Only b w w') {p : Addr} (hp : p.block ≠ b) : w'.cell? p = w.cell? p := World.cell?_of_block (w := w) (h.block p.block hp)

theorem Only.below {b B : Nat} {w w' : World} (h : Only b w w') (hB : B ≤ b) : Below B w w' :=
  ⟨h.os, h.tape, h.output, Nat.le_of_eq h.size.symm, fun k hk => h.block k (by omega)⟩

/-- Boxes in memory, two cells each. -/
def BoxAt (w : World) (b off : Nat) (bs : List (Int × Int)) : Prop :=
  b < w.heap.size ∧ ∀ i, i < bs.length → w.cell? ⟨b, off + i * 2, none⟩ = some (.int .i64 (bs.getD i (0, 0)).1) ∧ w.cell? ⟨b, off + i * 2 + 1, none⟩ = some (.int .i64 (bs.getD i (0, 0)).2)

/-- What a slice of boxes leads to. -/
def Sl (w : World) (a : Option Addr) (bs : List (Int × Int)) : Prop := bs = [] ∨ ∃ b off, a = some ⟨b, off, none⟩ ∧ BoxAt w b off bs

theorem BoxAt.below {w w' : World} {b off : Nat} {bs : List (Int × Int)} (h : BoxAt w b off bs) (hb : Below w.heap.size w w') : BoxAt w' b off bs :=
  ⟨Nat.lt_of_lt_of_le h.1 hb.size, fun i hi => by
    have := h.2 i hi
    rw [hb.cell (p := ⟨b, off + i * 2, none⟩) h.1, hb.cell (p := ⟨b, off + i * 2 + 1, none⟩) h.1]; exact this⟩

theorem Sl.below {w w' : World} {a : Option Addr} {bs : List (Int × Int)} (h : Sl w a bs) (hb : Below w.heap.size w w') : Sl w' a bs := by
  rcases h with h | ⟨b, off, rfl, h⟩
  · exact .inl h
  · exact .inr ⟨b, off, rfl, h.below hb⟩

theorem BoxAt.only {w w' : World} {b off c : Nat} {bs : List (Int × Int)} (h : BoxAt w b off bs) (hb : Only c w w') (hc : b ≠ c) : BoxAt w' b off bs :=
  ⟨by rw [hb.size]; exact h.1, fun i hi => by
    have := h.2 i hi
    rw [hb.cell (p := ⟨b, off + i * 2, none⟩) hc, hb.cell (p := ⟨b, off + i * 2 + 1, none⟩) hc]; exact this⟩

/-- The numbers k, k + 1, .. laid into n boxes. -/
def marks (k : Int) (n : Nat) : List (Int × Int) := (List.range n).map fun (i : Nat) => (k + 2 * (i : Int), k + 2 * (i : Int) + 1)

theorem marks_length (k : Int) (n : Nat) : (marks k n).length = n := by simp [marks]

theorem marks_getD (k : Int) (n i : Nat) (h : i < n) : (marks k n).getD i (0, 0) = (k + 2 * (i : Int), k + 2 * (i : Int) + 1) := by
  simp [marks, List.getD, h]

theorem take_succ_eq {xs ys : List (Int × Int)} {k : Nat} (hx : k < xs.length) (hy : k < ys.length) : (xs.take (k + 1) = ys.take (k + 1)) ↔ (xs.take k = ys.take k ∧ xs.getD k (0, 0) = ys.getD k (0, 0)) := by
  rw [List.take_succ_eq_append_getElem hx, List.take_succ_eq_append_getElem hy]
  constructor
  · intro h
    have := List.append_inj' h rfl
    refine ⟨this.1, ?_⟩
    have h2 := this.2
    simp at h2
    simp [List.getD, hx, hy, h2]
  · rintro ⟨h, h2⟩
    simp [List.getD, hx, hy] at h2
    rw [h, h2]

theorem ne_of_getD {xs ys : List (Int × Int)} {k : Nat} (h : xs.getD k (0, 0) ≠ ys.getD k (0, 0)) : (xs == ys) = false := by
  simp only [beq_eq_false_iff_ne, ne_eq]
  intro e; exact h (by rw [e])

theorem setCell_cell_same (w : World) (b o : Nat) (v u : Value) (h : w.cell? ⟨b, o, none⟩ = some u) : (w.setCell ⟨b, o, none⟩ v).cell? ⟨b, o, none⟩ = some v :=
  World.cell?_setCell_same _ _ _ h
theorem setCell_cell_other (w : World) (b o o' : Nat) (v : Value) (h : o ≠ o') : (w.setCell ⟨b, o, none⟩ v).cell? ⟨b, o', none⟩ = w.cell? ⟨b, o', none⟩ :=
  World.cell?_setCell_other _ _ _ _ (by intro e; injection e with _ e2 _; exact h e2)

theorem all_take_succ {α : Type} {p : α → Bool} {xs : List α} {k : Nat} (d : α) (h : k < xs.length) : (xs.take (k + 1)).all p = ((xs.take k).all p && p (xs.getD k d)) := by
  rw [List.take_succ_eq_append_getElem h, List.all_append]
  simp only [List.all_cons, List.all_nil, Bool.and_true, List.getD_eq_getElem?_getD, List.getElem?_eq_getElem h, Option.getD_some]

theorem all_false {α : Type} {p : α → Bool} {xs : List α} {k : Nat} (d : α) (h : k < xs.length) (hp : p (xs.getD k d) = false) : xs.all p = false := by
  rw [Bool.eq_false_iff]
  intro e
  rw [List.all_eq_true] at e
  have := e (xs.getD k d) (by simp [List.getD, h])
  rw [hp] at this
  cases this

/-- A number of 64 bits. -/
def Fits (n : Int) : Prop := -9223372036854775808 ≤ n ∧ n ≤ 9223372036854775807

theorem bcell {W w1 : World} (hb : Below W.heap.size W w1) : (∀ b o, b < W.heap.size → w1.cell? ⟨b, o, none⟩ = W.cell? ⟨b, o, none⟩) ∧ (∀ b o, b < W.heap.size → w1.frozen? ⟨b, o, none⟩ = W.frozen? ⟨b, o, none⟩) :=
  ⟨fun b o h => hb.cell (p := ⟨b, o, none⟩) h, fun b o h => hb.frozen (p := ⟨b, o, none⟩) h⟩

end Go.Proofs.YtokbakphfodabaaDoor.Own

namespace Go.Proofs.YtokbakphfodabaaDoor.Own
open Go.RowKit

/-- The text of a list of bytes. -/
def str (l : List UInt8) : ByteArray := ⟨l.toArray⟩
theorem str_eq {s : ByteArray} {l : List UInt8} (h : s.data.toList = l) : s = str l := by
  obtain ⟨⟨d⟩⟩ := s
  simp at h
  subst h
  rfl
theorem str_list (l : List UInt8) : (str l).data.toList = l := by simp [str]
theorem str_size (l : List UInt8) : (str l).size = l.length := by simp [str, ByteArray.size]
theorem list_append (a b : ByteArray) : (a ++ b).data.toList = a.data.toList ++ b.data.toList := by
  obtain ⟨⟨x⟩⟩ := a
  obtain ⟨⟨y⟩⟩ := b
  exact congrArg (fun t : ByteArray => t.data.toList) (ByteArray.mk_append_mk x y)
theorem str_append (a b : List UInt8) : str a ++ str b = str (a ++ b) := str_eq (by rw [list_append, str_list, str_list])
theorem size_list (s : ByteArray) : s.data.toList.length = s.size := Array.length_toList
theorem ret_str {a b : ByteArray} (h : a = b) : Ending.returned (.string a) = .returned (.string b) := by rw [h]

theorem dec_step (m : Nat) (h : ¬ m < 10) (acc : List UInt8) : Lib.decDigits m ++ acc = Lib.decDigits (m / 10) ++ (UInt8.ofNat (48 + m % 10) :: acc) := by
  rw [Lib.decDigits, dif_neg h]; simp

theorem itoa_neg' (n : Int) (h : n < 0) : Lib.itoa n = 45 :: Lib.decDigits n.natAbs := by unfold Lib.itoa; rw [if_pos h]
theorem itoa_pos' (n : Int) (h : ¬ n < 0) : Lib.itoa n = Lib.decDigits n.toNat := by unfold Lib.itoa; rw [if_neg h]

end Go.Proofs.YtokbakphfodabaaDoor.Own

namespace Go.Proofs.YtokbakphfodabaaDoor.Own
open Go.RowKit
set_option linter.unusedVariables false

theorem sizeBuilder : (Tryd.prog.info? 92).map (·.size) = some 2 := by kernel_rfl
theorem liesBuilder : liesAt Tryd.prog Tryd.prog.depth 92 (2 / Tryd.prog.cellsOf 92) 0 92 1 = true := by kernel_rfl
theorem infoByte : (Tryd.prog.info? 5).map (fun i => (i.zero, i.size, i.bytes)) = some (some (.int .u8 0), 1, 1) := by kernel_rfl

set_option maxHeartbeats 1000000 in
set_option maxRecDepth 100000 in
theorem copyCheckUsed (b : Nat) (w : World) (h0 : w.cell? ⟨b, 0, none⟩ = some (.pointer (some ⟨b, 0, none⟩))) :
    Calls Tryd.prog 88 #[.pointer (some ⟨b, 0, none⟩)] w fun e w' => e = .returned (.tuple #[]) ∧ w' = w := by
  obtain ⟨j, hj, _⟩ := Option.map_eq_some_iff.1 sizeBuilder
  go_enter Tryd.func88, Tryd.ntmps88
  go_wp2
  rw [Lib.run_neq_ptr_same w _ Tryd.underlying90 hj]
  go_wp2
  go_end0
  exact ⟨rfl, rfl⟩

set_option maxHeartbeats 1000000 in
set_option maxRecDepth 100000 in
theorem copyCheckFresh (b : Nat) (w : World) (h0 : w.cell? ⟨b, 0, none⟩ = some (.pointer none)) (hsh : w.shape? b = some (92, 2)) (hfz : w.frozen? ⟨b, 0, none⟩ = false) :
    Calls Tryd.prog 88 #[.pointer (some ⟨b, 0, none⟩)] w fun e w' => e = .returned (.tuple #[]) ∧ w' = w.setCell ⟨b, 0, none⟩ (.pointer (some ⟨b, 0, none⟩)) := by
  obtain ⟨j, hj, hjs⟩ := Option.map_eq_some_iff.1 sizeBuilder
  go_enter Tryd.func88, Tryd.ntmps88
  go_wp2
  rw [Lib.run_to_unsafe w ⟨b, 0, none⟩ Tryd.underlying90 Tryd.underlying162 hj (by rw [hjs]; decide) hsh (Nat.zero_lt_succ 1)]
  simp only [Result.andThen]
  rw [Oper.upon_value]
  go_wp2
  rw [run_callFunc_extern Tryd.func93 (by kernel_rfl) (by kernel_rfl) (by kernel_rfl) (e := Extern.AbiNoEscape.same) (by kernel_rfl)]
  rw [Lib.run_noEscape]
  simp only [Result.andThen]
  rw [Oper.upon_value]
  go_wp2
  rw [Lib.run_from_unsafe w ⟨b, 0, none⟩ Tryd.underlying162 Tryd.underlying90 hj hsh liesBuilder]
  simp only [Result.andThen]
  rw [Oper.upon_value]
  go_wp2
  go_end0
  exact ⟨rfl, rfl⟩

theorem copyCheck (B b : Nat) (bs : List Value) (w : World) (h : Lib.IsBuilder 92 5 B b bs w) :
    Calls Tryd.prog 88 #[.pointer (some ⟨b, 0, none⟩)] w fun e w' => e = .returned (.tuple #[]) ∧ Lib.BuilderAt 92 5 B b (.pointer (some ⟨b, 0, none⟩)) bs w' ∧ Below B w w' ∧ Lib.OthersKept 5 (some b) w w' := by
  rcases h with h | h
  · refine (copyCheckFresh b w h.cell0 h.shape h.frozen0).mono ?_
    rintro e w' ⟨rfl, rfl⟩
    exact ⟨rfl, h.used _, (Below.refl B w).setCell (p := ⟨b, 0, none⟩) h.1 _, (Lib.OthersKept.refl _ _ w).setCell ⟨b, 0, none⟩ rfl _⟩
  · refine (copyCheckUsed b w h.cell0).mono ?_
    rintro e w' ⟨rfl, rfl⟩
    exact ⟨rfl, h, Below.refl B _, Lib.OthersKept.refl _ _ _⟩

theorem ownsRow_kind {w : World} {B : Nat} {e : TypeId} {v : Value} {n : Nat} {xs : List Value} (h : w.ownsRow B e 1 v n xs) : ∀ g, v.ownBlock = some g → ∃ c fz, w.heap[g]? = some (.cells c e fz) := by
  rcases h.2 with ⟨rfl, _⟩ | ⟨g, cap, cur, rfl, _, hg, _⟩
  · intro g hg; simp [Value.ownBlock] at hg
  · intro k hk
    simp only [Value.ownBlock, Option.some.injEq] at hk
    subst hk
    exact ⟨_, _, hg⟩

set_option maxHeartbeats 2000000 in
set_option maxRecDepth 100000 in
theorem writeString (B b : Nat) (bs : List Value) (s : ByteArray) (w : World) (h : Lib.IsBuilder 92 5 B b bs w) (hlen : bs.length + s.size ≤ 140737488355328) (hBw : B ≤ w.heap.size) :
    Calls Tryd.prog 79 #[.pointer (some ⟨b, 0, none⟩), .string s] w fun e w' => e = .returned (.tuple #[.int .i64 s.size, .nilIface]) ∧ Lib.BuilderAt 92 5 B b (.pointer (some ⟨b, 0, none⟩)) (bs ++ Lib.strCells s) w' ∧ Below B w w' ∧ Lib.OthersKept 5 (some b) w w' := by
  obtain ⟨i0, hi, hz0, hz1, hz2⟩ := info_parts infoByte
  go_enter Tryd.func79, Tryd.ntmps79
  go_wp2_with (go_at_call 88; refine (copyCheck B b bs _ h).mono ?_)
  rintro e w1 ⟨rfl, h1, hb1, hk1⟩
  obtain ⟨hB, v, hbk, hown, hne⟩ := h1
  have c0 : w1.cell? ⟨b, 0, none⟩ = some (.pointer (some ⟨b, 0, none⟩)) := by rw [Lib.cell_of_heap hbk]; rfl
  have c1 : w1.cell? ⟨b, 1, none⟩ = some v := by rw [Lib.cell_of_heap hbk]; rfl
  go_wp2_with (at_builtin; refine Lib.wpList_append_own_string _ rfl _ _ 22 9 rfl B 5 i0 Tryd.underlying22 Tryd.underlying9 hi hz0 hz1 hz2 _ _ _ rfl hown s rfl ?c3 ?c4 ?c5 ?_)
  case c3 => unfold maxLen; omega
  case c4 => omega
  case c5 => have := hb1.size; omega
  intro v' w2 hown' hgrow _
  have hlt : b < w1.heap.size := by
    rcases Nat.lt_or_ge b w1.heap.size with h' | h'
    · exact h'
    · simp [Array.getElem?_eq_none h'] at hbk
  have hb2 : w2.heap[b]? = some (.cells #[.pointer (some ⟨b, 0, none⟩), v] 92 (0, 0)) := by
    rw [hgrow.block b hlt (fun e => hne e.symm)]
    exact hbk
  have d0 : w2.cell? ⟨b, 0, none⟩ = some (.pointer (some ⟨b, 0, none⟩)) := by rw [Lib.cell_of_heap hb2]; rfl
  have d1 : w2.cell? ⟨b, 1, none⟩ = some v := by rw [Lib.cell_of_heap hb2]; rfl
  have f1 : w2.frozen? ⟨b, 1, none⟩ = false := Lib.frozen_of_heap hb2 1
  obtain ⟨ao, n', cap, rfl⟩ : ∃ ao n' cap, v' = .slice ao n' cap := by
    rcases hown'.2 with ⟨hv, _⟩ | ⟨g, cap, cur, hv, _⟩
    · exact ⟨_, _, _, hv⟩
    · exact ⟨_, _, _, hv⟩
  go_wp2
  go_ret2
  refine ⟨rfl, ?_, ?_, (hk1.grown hgrow (ownsRow_kind hown)).setCell ⟨b, 1, none⟩ rfl _⟩
  · exact Lib.BuilderAt.put (T := 92) (e := 5) hB hb2 (bs' := bs ++ Lib.strCells s) (by simpa [Lib.strCells_length] using hown') (by decide)
  · exact (hb1.grown hgrow (by have := hb1.size; omega) (fun k hk => (hown.lt k hk).1)).setCell (p := ⟨b, 1, none⟩) hB _
end Go.Proofs.YtokbakphfodabaaDoor.Own

namespace Go.Proofs.YtokbakphfodabaaDoor.Own
open Go.RowKit
set_option linter.unusedVariables false
set_option linter.unusedSimpArgs false

/-- The library's table reads as its text lays it. -/
def Tab (w : World) : Prop := Lib.TabIs Tryd.prog w "internal/strconv.uint64pow10" .u64 Lib.pow10Tab

theorem tab_lt {w : World} (h : Tab w) {g : Nat} (hg : Tryd.prog.globalNamed "internal/strconv.uint64pow10" = some g) : g < w.heap.size := by
  unfold Tab Lib.TabIs World.var? at h
  simp only [hg, Option.bind_some] at h
  cases hq : w.heap[g]? with
  | none => simp [hq] at h
  | some o => exact (Array.getElem?_eq_some_iff.1 hq).1

theorem tab_named {w : World} (h : Tab w) : ∃ g, Tryd.prog.globalNamed "internal/strconv.uint64pow10" = some g := by
  unfold Tab Lib.TabIs World.var? at h
  cases hq : Tryd.prog.globalNamed "internal/strconv.uint64pow10" with
  | none => simp [hq] at h
  | some g => exact ⟨g, rfl⟩

theorem tab_below {w0 w w' : World} {B : Nat} (h0 : Tab w0) (h : Tab w) (hb : Below B w w') (hB : w0.heap.size ≤ B) : Tab w' := by
  obtain ⟨g, hg⟩ := tab_named h
  exact var?_below hb hg (Nat.lt_of_lt_of_le (tab_lt h0 hg) hB) h

theorem itoa_len (n : Int) (h : Fits n) : (Lib.itoa n).length ≤ 21 := Lib.itoa_length_le n h.1 h.2

set_option maxHeartbeats 1000000 in
theorem itoaC (n : Int) (w : World) (h : Fits n) (ht : Tab w) : Calls Tryd.prog 89 #[.int .i64 n] w fun e w' => e = .returned (.string (str (Lib.itoa n))) ∧ Below w.heap.size w w' := by
  refine (Tryd.strconv_Itoa n h.1 h.2 w ht).mono ?_
  rintro e w' ⟨rfl, k, os, rfl⟩
  exact ⟨rfl, Lib.below_grow _ w (Nat.le_refl _) k os⟩


theorem ownsRow_keep {w w' : World} {B e s n : Nat} {v : Value} {xs : List Value} (h : w.ownsRow B e s v n xs) (hb : Below w.heap.size w w') : w'.ownsRow B e s v n xs := by
  obtain ⟨h1, h2⟩ := h
  refine ⟨h1, ?_⟩
  rcases h2 with h2 | ⟨g, cap, cur, hv, hg, hh, r⟩
  · exact .inl h2
  · exact .inr ⟨g, cap, cur, hv, hg, by rw [hb.block g (Array.getElem?_eq_some_iff.1 hh).1]; exact hh, r⟩

theorem builderAt_keep {T e : TypeId} {B b : Nat} {p : Value} {bs : List Value} {w w' : World} (h : Lib.BuilderAt T e B b p bs w) (hb : Below w.heap.size w w') : Lib.BuilderAt T e B b p bs w' := by
  have hlt := h.lt
  obtain ⟨hB, v, hh, hown, hne⟩ := h
  exact ⟨hB, v, by rw [hb.block b hlt]; exact hh, ownsRow_keep hown hb, hne⟩

theorem isBuilder_keep {T e : TypeId} {B b : Nat} {bs : List Value} {w w' : World} (h : Lib.IsBuilder T e B b bs w) (hb : Below w.heap.size w w') : Lib.IsBuilder T e B b bs w' :=
  h.elim (fun x => .inl (builderAt_keep x hb)) (fun x => .inr (builderAt_keep x hb))

theorem cells_snoc (l m : List UInt8) : Lib.byteCells l ++ Lib.strCells (str m) = Lib.byteCells (l ++ m) := by
  rw [Lib.byteCells_append]; simp [Lib.strCells, Lib.byteCells, str_list]

theorem cells_space (l : List UInt8) : Lib.byteCells l ++ [Value.int .u8 32] = Lib.byteCells (l ++ [32]) := by
  rw [Lib.byteCells_append]; rfl

end Go.Proofs.YtokbakphfodabaaDoor.Own

namespace Go.Proofs.YtokbakphfodabaaDoor.Own
open Go.RowKit

theorem run_copy_fat {P : Program} (w : World) (dT sT ty elem : TypeId) (g o dLen dCap : Nat) (a : Addr) (sLen sCap sz : Nat) (cur : Array Value) (t : TypeId) (cs : List Value)
    (hu : P.underlying dT = some (.slice elem)) (hs : (P.info? elem).map (·.size) = some sz)
    (hg : w.heap[g]? = some (.cells cur t (0, 0))) (hn : cs.length = Nat.min sLen dLen * sz)
    (hsrc : ∀ j v, cs[j]? = some v → w.cell? (a.add j) = some v) (hfit : o + cs.length ≤ cur.size) (h1 : ∀ v ∈ cs, v.oneCell' = true) :
    (Builtin.copy_ #[dT, sT] ty #[.slice (some ⟨g, o, none⟩) dLen dCap, .slice (some a) sLen sCap]).run P w =
      .ok (goInt (Nat.min sLen dLen)) (w.setRow g (cur.toList.take o ++ cs ++ cur.toList.drop (o + cs.length)).toArray) := by
  have hl := run_loadCells_list (P := P) w a cs hsrc
  have hst := run_storeCells_at P g o t cs 0 cur w hg (by simpa using hfit) h1
  rw [hn] at hl
  cases hq : P.info? elem with
  | none => simp [hq] at hs
  | some i =>
    have hi : i.size = sz := by simpa [hq] using hs
    simp [Builtin.copy_, run_underlying hu, Builtin.lenOf, Builtin.firstCells, sizeOf, typeInfo, hq, hi, hl, hst]

theorem run_copy_zero {P : Program} (w : World) (dT sT ty elem : TypeId) (d a : Option Addr) (dLen dCap sLen sCap sz : Nat)
    (hu : P.underlying dT = some (.slice elem)) (hs : (P.info? elem).map (·.size) = some sz) (hn : Nat.min sLen dLen = 0) :
    (Builtin.copy_ #[dT, sT] ty #[.slice d dLen dCap, .slice a sLen sCap]).run P w = .ok (goInt 0) w := by
  cases hq : P.info? elem with
  | none => simp [hq] at hs
  | some i =>
    have hi : i.size = sz := by simpa [hq] using hs
    have hl : ∀ x, (loadCells x 0).run P w = .ok #[] w := fun x => by
      simpa using run_loadCells_list (P := P) w x [] (by simp)
    cases d <;> cases a <;> simp [Builtin.copy_, run_underlying hu, Builtin.lenOf, Builtin.firstCells, sizeOf, typeInfo, hq, hn, hl, storeCells]

theorem wpList_copy_fat {P : Program} {w : World} {ops : Array Oper} {rest : List Oper} {o : Oper} {a : Act} {Q : Exit → Act → World → Prop} (hgd : o.guard = none) (d s : Operand) (dT sT : TypeId)
    (ho : o.op = .call { callee := .builtin .copy, args := #[d, s], argTypes := #[dT, sT] }) (elem : TypeId) (sz : Nat) (hu : P.underlying dT = some (.slice elem)) (hsz : (P.info? elem).map (·.size) = some sz)
    (g off dLen dCap : Nat) (sp : Option Addr) (sLen sCap : Nat) (hd : a.eval d = .slice (some ⟨g, off, none⟩) dLen dCap) (hs : a.eval s = .slice sp sLen sCap)
    (cur : Array Value) (t : TypeId) (hg : w.heap[g]? = some (.cells cur t (0, 0))) (cs : List Value) (hn : cs.length = Nat.min sLen dLen * sz)
    (hsrc : Nat.min sLen dLen = 0 ∨ ∃ ad, sp = some ad ∧ ∀ j v, cs[j]? = some v → w.cell? (ad.add j) = some v) (hfit : off + cs.length ≤ cur.size) (h1 : ∀ v ∈ cs, v.oneCell' = true)
    (h : wpList P ops Q rest (a.put o.dst (goInt (Nat.min sLen dLen))) (w.setRow g (cur.toList.take off ++ cs ++ cur.toList.drop (off + cs.length)).toArray)) : wpList P ops Q (o :: rest) a w := by
  refine wpList_plain hgd fun K hK => ?_
  rcases hsrc with h0 | ⟨ad, rfl, hsrc⟩
  · have hcs : cs = [] := List.eq_nil_of_length_eq_zero (by rw [hn, h0]; simp)
    subst hcs
    have hrun := run_copy_zero (P := P) w dT sT o.type elem (some ⟨g, off, none⟩) sp dLen dCap sLen sCap sz hu hsz h0
    have e : w.setRow g (cur.toList.take off ++ [] ++ cur.toList.drop (off + ([] : List Value).length)).toArray = w := by
      simpa using setRow_self w g cur t (0, 0) hg
    rw [e, h0] at h
    unfold Oper.wp
    simp [execOp, ho, resolve, invoke, builtin, hd, hs, hrun, Result.andThen]
    exact hK _ _ h
  · have hrun := run_copy_fat (P := P) w dT sT o.type elem g off dLen dCap ad sLen sCap sz cur t cs hu hsz hg hn hsrc hfit h1
    unfold Oper.wp
    simp only [execOp, ho, resolve, invoke, builtin]
    simp only [List.append_assoc] at hrun h
    simp [hd, hs, hrun, Result.andThen]
    exact hK _ _ h

/-- The built-in copy as one step of a region that draws its order, elements of whatever size. -/
theorem step_copy_fat {P : Program} {ops : Array Oper} {o : Oper} {a : Act} {w : World} {K : Act → World → Prop} {Q : Exit → Act → World → Prop} {E : Prop} (hgd : o.guard = none) (d s : Operand) (dT sT : TypeId)
    (ho : o.op = .call { callee := .builtin .copy, args := #[d, s], argTypes := #[dT, sT] }) (elem : TypeId) (sz : Nat) (hu : P.underlying dT = some (.slice elem)) (hsz : (P.info? elem).map (·.size) = some sz)
    (g off dLen dCap : Nat) (sp : Option Addr) (sLen sCap : Nat) (hd : a.eval d = .slice (some ⟨g, off, none⟩) dLen dCap) (hs : a.eval s = .slice sp sLen sCap)
    (cur : List Value) (t : TypeId) (hg : w.heap[g]? = some (.cells cur.toArray t (0, 0))) (cs : List Value) (hn : cs.length = Nat.min sLen dLen * sz)
    (hpos : Nat.min sLen dLen = 0 ∨ ∃ ad, sp = some ad ∧ ∀ j v, cs[j]? = some v → w.cell? (ad.add j) = some v)
    (hfit : off + cs.length ≤ cur.length) (h1 : ∀ v ∈ cs, v.oneCell' = true) (B : Nat) (w0 : World) (hb : Below B w0 w) (hBg : B ≤ g)
    (h : ∀ w', Hid (w'.heap[g]? = some (.cells (splice cur off cs).toArray t (0, 0))) → Below B w0 w' → K (a.put o.dst (goInt (Nat.min sLen dLen))) w') :
    if Region.wanted o (yielded ops a.tmps) = true then Oper.wp P o a w K Q else E := by
  have hw : Region.wanted o (yielded ops a.tmps) = true := by simp [Region.wanted, hgd]
  rw [if_pos hw]
  rcases hpos with h0 | ⟨ad, rfl, hsrc⟩
  · have hcs : cs = [] := List.eq_nil_of_length_eq_zero (by rw [hn, h0]; simp)
    subst hcs
    have hrun := run_copy_zero (P := P) w dT sT o.type elem (some ⟨g, off, none⟩) sp dLen dCap sLen sCap sz hu hsz h0
    have h' := h w (show _ = _ by simpa [splice] using hg) hb
    rw [h0] at h'
    unfold Oper.wp
    simp [execOp, ho, resolve, invoke, builtin, hd, hs, hrun, Result.andThen]
    exact h'
  · have hrun := run_copy_fat (P := P) w dT sT o.type elem g off dLen dCap ad sLen sCap sz cur.toArray t cs hu hsz hg hn hsrc (by simpa using hfit) h1
    have h' := h _ (show _ = _ by simpa [splice] using setRow_heap w g _ _ t _ hg) (below_setRow hb hBg _)
    unfold Oper.wp
    simp only [execOp, ho, resolve, invoke, builtin]
    simp [hd, hs, hrun, Result.andThen]
    exact h'

theorem make_row {P : Program} {t e : TypeId} {z : Value} {size bytes : Nat} (ht : P.underlying t = some (.slice e)) (hi : (P.info? e).map (fun i => (i.zero, i.size, i.bytes)) = some (some z, size, bytes))
    (n : Nat) (hn : bytes * n ≤ 281474976710656) (h63 : n ≤ 2 ^ 50) (w : World) :
    (Instr.makeSlice t (.int .i64 n) (.int .i64 n)).run P w = .ok (.slice (some ⟨w.heap.size, 0, none⟩) n n) (w.alloc (.cells (madeCells z.cells (n * size)) e)) := by
  obtain ⟨i, h1, h2, h3, h4⟩ := info_parts hi
  have hb : (i.bytes : Int) * (n : Int) ≤ 281474976710656 := by
    have h : ((bytes * n : Nat) : Int) ≤ 281474976710656 := by omega
    rw [h4]
    rwa [Int.natCast_mul] at h
  have := run_make (P := P) w t e i z ht h1 h2 .i64 .i64 n n (by omega) (by omega) hb (by omega)
  rw [h3] at this
  simpa using this

theorem made_cell {z : Array Value} {n k : Nat} (hz : 0 < z.size) (h : k < n) (h1 : ∀ v ∈ z, v.oneCell' = true) : ∃ v, (madeCells z n)[k]? = some v ∧ v.oneCell' = true := by
  have hk : k % z.size < z.size := Nat.mod_lt _ hz
  refine ⟨z[k % z.size]'hk, ?_, h1 _ (by simp)⟩
  simp [madeCells, h, hk]
end Go.Proofs.YtokbakphfodabaaDoor.Own

namespace Go.Proofs.YtokbakphfodabaaDoor.Own
open Go.RowKit

def numOk (n : Int) : Bool := decide (-1000000 ≤ n) && decide (n ≤ 1000000)
def boxOk1 (p : Int × Int) : Bool := decide (0 ≤ p.1) && decide (p.1 ≤ 1000000) && numOk p.2
def boxOk (xs : List (Int × Int)) : Bool := xs.length == 4 && xs.all boxOk1

set_option maxHeartbeats 400000 in
theorem l1Num (n : Int) (w : World) : Calls Tryd.prog 45 #[.int .i64 n] w fun e w' => e = .returned (.bool (numOk n)) ∧ w' = w := by
  have e : Hid (numOk n = (decide (-1000000 ≤ n) && decide (n ≤ 1000000))) := rfl
  by_cases h1 : -1000000 ≤ n
  · by_cases h2 : n ≤ 1000000
    all_goals
      go_enter Tryd.func45, Tryd.ntmps45
      go_wp2
      go_ret
      exact ⟨ret_bool (by rw [e.out]; simp [h1, h2]), rfl⟩
  · have h1' : n < -1000000 := by omega
    go_enter Tryd.func45, Tryd.ntmps45
    go_wp2
    go_ret
    exact ⟨ret_bool (by rw [e.out]; simp; omega), rfl⟩

end Go.Proofs.YtokbakphfodabaaDoor.Own

namespace Go.Proofs.YtokbakphfodabaaDoor.Own
open Go.RowKit

/-- An instruction: Kind, A, B, N. -/
abbrev Q4 := Int × Int × Int × Int
def q0 : Q4 := (0, 0, 0, 0)

/-- Rows of four numbers in memory. -/
def At4 (w : World) (b off : Nat) (xs : List Q4) : Prop :=
  b < w.heap.size ∧ ∀ i, i < xs.length → w.cell? ⟨b, off + i * 4, none⟩ = some (.int .i64 (xs.getD i q0).1) ∧ w.cell? ⟨b, off + i * 4 + 1, none⟩ = some (.int .i64 (xs.getD i q0).2.1) ∧ w.cell? ⟨b, off + i * 4 + 2, none⟩ = some (.int .i64 (xs.getD i q0).2.2.1) ∧ w.cell? ⟨b, off + i * 4 + 3, none⟩ = some (.int .i64 (xs.getD i q0).2.2.2)

/-- What a slice of such rows leads to. -/
def Sl4 (w : World) (a : Option Addr) (xs : List Q4) : Prop := xs = [] ∨ ∃ b off, a = some ⟨b, off, none⟩ ∧ At4 w b off xs

theorem At4.congr {w w' : World} {b off : Nat} {xs : List Q4} (h : At4 w b off xs) (hs : b < w'.heap.size) (hc : ∀ o, w'.cell? ⟨b, o, none⟩ = w.cell? ⟨b, o, none⟩) : At4 w' b off xs :=
  ⟨hs, fun i hi => by rw [hc, hc, hc, hc]; exact h.2 i hi⟩

theorem At4.below {w w' : World} {b off : Nat} {xs : List Q4} (h : At4 w b off xs) (hb : Below w.heap.size w w') : At4 w' b off xs :=
  h.congr (Nat.lt_of_lt_of_le h.1 hb.size) fun o => hb.cell (p := ⟨b, o, none⟩) h.1

theorem At4.belowAt {w w' : World} {b off B : Nat} {xs : List Q4} (h : At4 w b off xs) (hb : Below B w w') (hB : b < B) : At4 w' b off xs :=
  h.congr (Nat.lt_of_lt_of_le h.1 hb.size) fun o => hb.cell (p := ⟨b, o, none⟩) hB

theorem Sl4.below {w w' : World} {a : Option Addr} {xs : List Q4} (h : Sl4 w a xs) (hb : Below w.heap.size w w') : Sl4 w' a xs := by
  rcases h with h | ⟨b, off, rfl, h⟩
  · exact .inl h
  · exact .inr ⟨b, off, rfl, h.below hb⟩

theorem At4.only {w w' : World} {b off c : Nat} {xs : List Q4} (h : At4 w b off xs) (hb : Only c w w') (hc : b ≠ c) : At4 w' b off xs :=
  h.congr (by rw [hb.size]; exact h.1) fun o => hb.cell (p := ⟨b, o, none⟩) hc

/-- The numbers k, k + 1, .. laid into n rows of four. -/
def marks4 (k : Int) (n : Nat) : List Q4 := (List.range n).map fun (i : Nat) => (k + 4 * (i : Int), k + 4 * (i : Int) + 1, k + 4 * (i : Int) + 1 + 1, k + 4 * (i : Int) + 1 + 1 + 1)

theorem marks4_length (k : Int) (n : Nat) : (marks4 k n).length = n := by simp [marks4]

theorem marks4_getD (k : Int) (n i : Nat) (h : i < n) : (marks4 k n).getD i q0 = (k + 4 * (i : Int), k + 4 * (i : Int) + 1, k + 4 * (i : Int) + 1 + 1, k + 4 * (i : Int) + 1 + 1 + 1) := by
  simp [marks4, List.getD, h]

theorem take_succ_eqG {α : Type} {xs ys : List α} {k : Nat} (d : α) (hx : k < xs.length) (hy : k < ys.length) : (xs.take (k + 1) = ys.take (k + 1)) ↔ (xs.take k = ys.take k ∧ xs.getD k d = ys.getD k d) := by
  rw [List.take_succ_eq_append_getElem hx, List.take_succ_eq_append_getElem hy]
  constructor
  · intro h
    have := List.append_inj' h rfl
    refine ⟨this.1, ?_⟩
    have h2 := this.2
    simp at h2
    simp [List.getD, hx, hy, h2]
  · rintro ⟨h, h2⟩
    simp [List.getD, hx, hy] at h2
    rw [h, h2]

theorem ne_of_getDG {α : Type} [BEq α] [LawfulBEq α] {xs ys : List α} {k : Nat} (d : α) (h : xs.getD k d ≠ ys.getD k d) : (xs == ys) = false := by
  simp only [beq_eq_false_iff_ne, ne_eq]
  intro e; exact h (by rw [e])

/-- The equality of two rows, number by number. -/
def eqQ (p q : Q4) : Bool := p.1 == q.1 && p.2.1 == q.2.1 && p.2.2.1 == q.2.2.1 && p.2.2.2 == q.2.2.2
theorem eqQ_iff (p q : Q4) : eqQ p q = true ↔ p = q := by
  obtain ⟨a, b, c, d⟩ := p
  obtain ⟨a', b', c', d'⟩ := q
  simp [eqQ, and_assoc]
theorem eqQ_false (p q : Q4) : eqQ p q = false ↔ p ≠ q := by
  rw [← Bool.not_eq_true, eqQ_iff]

/-- Numbers in memory, one cell each. -/
def IntAt (w : World) (b off : Nat) (xs : List Int) : Prop :=
  b < w.heap.size ∧ ∀ i, i < xs.length → w.cell? ⟨b, off + i, none⟩ = some (.int .i64 (xs.getD i 0))

def SlI (w : World) (a : Option Addr) (xs : List Int) : Prop := xs = [] ∨ ∃ b off, a = some ⟨b, off, none⟩ ∧ IntAt w b off xs

theorem IntAt.congr {w w' : World} {b off : Nat} {xs : List Int} (h : IntAt w b off xs) (hs : b < w'.heap.size) (hc : ∀ o, w'.cell? ⟨b, o, none⟩ = w.cell? ⟨b, o, none⟩) : IntAt w' b off xs :=
  ⟨hs, fun i hi => by rw [hc]; exact h.2 i hi⟩
theorem IntAt.below {w w' : World} {b off : Nat} {xs : List Int} (h : IntAt w b off xs) (hb : Below w.heap.size w w') : IntAt w' b off xs :=
  h.congr (Nat.lt_of_lt_of_le h.1 hb.size) fun o => hb.cell (p := ⟨b, o, none⟩) h.1
theorem IntAt.belowAt {w w' : World} {b off B : Nat} {xs : List Int} (h : IntAt w b off xs) (hb : Below B w w') (hB : b < B) : IntAt w' b off xs :=
  h.congr (Nat.lt_of_lt_of_le h.1 hb.size) fun o => hb.cell (p := ⟨b, o, none⟩) hB
theorem SlI.below {w w' : World} {a : Option Addr} {xs : List Int} (h : SlI w a xs) (hb : Below w.heap.size w w') : SlI w' a xs := by
  rcases h with h | ⟨b, off, rfl, h⟩
  · exact .inl h
  · exact .inr ⟨b, off, rfl, h.below hb⟩
theorem IntAt.only {w w' : World} {b off c : Nat} {xs : List Int} (h : IntAt w b off xs) (hb : Only c w w') (hc : b ≠ c) : IntAt w' b off xs :=
  h.congr (by rw [hb.size]; exact h.1) fun o => hb.cell (p := ⟨b, o, none⟩) hc

def marks1 (k : Int) (n : Nat) : List Int := (List.range n).map fun (i : Nat) => k + (i : Int)
theorem marks1_length (k : Int) (n : Nat) : (marks1 k n).length = n := by simp [marks1]
theorem marks1_getD (k : Int) (n i : Nat) (h : i < n) : (marks1 k n).getD i 0 = k + (i : Int) := by
  simp [marks1, List.getD, h]


/-- Four cells in a row, put one behind the other. -/
theorem put4 {w : World} {b o : Nat} {x0 x1 x2 x3 : Value} (v0 v1 v2 v3 : Value) (c0 : w.cell? ⟨b, o, none⟩ = some x0) (c1 : w.cell? ⟨b, o + 1, none⟩ = some x1) (c2 : w.cell? ⟨b, o + 2, none⟩ = some x2) (c3 : w.cell? ⟨b, o + 3, none⟩ = some x3) :
    (((((w.setCell ⟨b, o, none⟩ v0).setCell ⟨b, o + 1, none⟩ v1).setCell ⟨b, o + 2, none⟩ v2).setCell ⟨b, o + 3, none⟩ v3).cell? ⟨b, o, none⟩ = some v0) ∧
    (((((w.setCell ⟨b, o, none⟩ v0).setCell ⟨b, o + 1, none⟩ v1).setCell ⟨b, o + 2, none⟩ v2).setCell ⟨b, o + 3, none⟩ v3).cell? ⟨b, o + 1, none⟩ = some v1) ∧
    (((((w.setCell ⟨b, o, none⟩ v0).setCell ⟨b, o + 1, none⟩ v1).setCell ⟨b, o + 2, none⟩ v2).setCell ⟨b, o + 3, none⟩ v3).cell? ⟨b, o + 2, none⟩ = some v2) ∧
    (((((w.setCell ⟨b, o, none⟩ v0).setCell ⟨b, o + 1, none⟩ v1).setCell ⟨b, o + 2, none⟩ v2).setCell ⟨b, o + 3, none⟩ v3).cell? ⟨b, o + 3, none⟩ = some v3) ∧
    ∀ p, (p < o ∨ o + 3 < p) → ((((w.setCell ⟨b, o, none⟩ v0).setCell ⟨b, o + 1, none⟩ v1).setCell ⟨b, o + 2, none⟩ v2).setCell ⟨b, o + 3, none⟩ v3).cell? ⟨b, p, none⟩ = w.cell? ⟨b, p, none⟩ := by
  have s := fun (W : World) (p q : Nat) (v : Value) (h : p ≠ q) => setCell_cell_other W b p q v h
  refine ⟨?_, ?_, ?_, ?_, fun p hp => ?_⟩
  · rw [s _ (o + 3) o _ (by omega), s _ (o + 2) o _ (by omega), s _ (o + 1) o _ (by omega)]
    exact setCell_cell_same _ _ _ _ x0 c0
  · rw [s _ (o + 3) (o + 1) _ (by omega), s _ (o + 2) (o + 1) _ (by omega)]
    exact setCell_cell_same _ _ _ _ x1 (by rw [s _ o (o + 1) _ (by omega)]; exact c1)
  · rw [s _ (o + 3) (o + 2) _ (by omega)]
    exact setCell_cell_same _ _ _ _ x2 (by rw [s _ (o + 1) (o + 2) _ (by omega), s _ o (o + 2) _ (by omega)]; exact c2)
  · exact setCell_cell_same _ _ _ _ x3 (by rw [s _ (o + 2) (o + 3) _ (by omega), s _ (o + 1) (o + 3) _ (by omega), s _ o (o + 3) _ (by omega)]; exact c3)
  · rw [s _ (o + 3) p _ (by omega), s _ (o + 2) p _ (by omega), s _ (o + 1) p _ (by omega), s _ o p _ (by omega)]

end Go.Proofs.YtokbakphfodabaaDoor.Own

namespace Go.Proofs.YtokbakphfodabaaDoor.Own
open Go.RowKit

def numOk2 (n : Int) : Bool := decide (-1000000 ≤ n) && decide (n ≤ 1000000)
def regOk (n : Int) : Bool := decide (0 ≤ n) && decide (n ≤ 3)
def lessOk (n : Int) : Bool := decide (1 ≤ n) && decide (n ≤ 10)
/-- An instruction is right. -/
def insOk (p : Q4) : Bool :=
  if p.1 = 1 ∨ p.1 = 2 ∨ p.1 = 4 ∨ p.1 = 5 then regOk p.2.1 && regOk p.2.2.1 && p.2.2.2 == 0
  else if p.1 = 3 then regOk p.2.1 && p.2.2.1 == 0 && numOk2 p.2.2.2
  else if p.1 = 6 then regOk p.2.1 && regOk p.2.2.1 && lessOk p.2.2.2
  else if p.1 = 7 then p.2.1 == 0 && p.2.2.1 == 0 && p.2.2.2 == 0
  else false
/-- A program is ok. -/
def progOk (xs : List Q4) : Bool := decide (xs.length ≤ 10) && xs.all insOk

theorem insOk_1 (a b n : Int) : insOk (1, a, b, n) = (regOk a && regOk b && n == 0) := rfl
theorem insOk_2 (a b n : Int) : insOk (2, a, b, n) = (regOk a && regOk b && n == 0) := rfl
theorem insOk_3 (a b n : Int) : insOk (3, a, b, n) = (regOk a && b == 0 && numOk2 n) := rfl
theorem insOk_4 (a b n : Int) : insOk (4, a, b, n) = (regOk a && regOk b && n == 0) := rfl
theorem insOk_5 (a b n : Int) : insOk (5, a, b, n) = (regOk a && regOk b && n == 0) := rfl
theorem insOk_6 (a b n : Int) : insOk (6, a, b, n) = (regOk a && regOk b && lessOk n) := rfl
theorem insOk_7 (a b n : Int) : insOk (7, a, b, n) = (a == 0 && b == 0 && n == 0) := rfl
theorem insOk_no {k : Int} (a b n : Int) (h : k ≠ 1 ∧ k ≠ 2 ∧ k ≠ 3 ∧ k ≠ 4 ∧ k ≠ 5 ∧ k ≠ 6 ∧ k ≠ 7) : insOk (k, a, b, n) = false := by
  obtain ⟨h1, h2, h3, h4, h5, h6, h7⟩ := h
  simp [insOk, h1, h2, h3, h4, h5, h6, h7]
end Go.Proofs.YtokbakphfodabaaDoor.Own

namespace Go.Proofs.YtokbakphfodabaaDoor.Own
open Go.RowKit
set_option linter.unusedVariables false

abbrev P2 := Int × Int
def z2 : P2 := (0, 0)

/-- What stands at a place is of a box, right, and its box has not come ahead of it. -/
def okAt (f : Int → Bool) (xs : List P2) (i : Nat) : Bool := regOk (xs.getD i (0, 0)).1 && f (xs.getD i (0, 0)).2 && !((xs.take i).any fun p => p.1 == (xs.getD i (0, 0)).1)
def okAll (f : Int → Bool) (xs : List P2) : Bool := (List.range xs.length).all (okAt f xs)
theorem okAll_iff {f : Int → Bool} {xs : List P2} : okAll f xs = true ↔ ∀ i, i < xs.length → okAt f xs i = true := by
  simp [okAll, List.all_eq_true]
theorem okAll_false {f : Int → Bool} {xs : List P2} {i : Nat} (hi : i < xs.length) (h : okAt f xs i = false) : okAll f xs = false := by
  rw [Bool.eq_false_iff]
  intro e
  rw [okAll_iff.1 e i hi] at h
  cases h

def verOk (n : Int) : Bool := decide (0 ≤ n) && decide (n ≤ 1000000)
def endOk (k v : Int) (nr np : Nat) : Bool :=
  if k = 0 then numOk v else if k = 1 ∨ k = 2 then v == 0 && decide (np = 0) else if k = 3 then v == 0 && decide (np = 0) && decide (nr = 0) else false
/-- A run is right. -/
def execOk (xs ys : List P2) (v k : Int) : Bool := endOk k v xs.length ys.length && okAll verOk xs && okAll numOk ys

theorem endOk_0 (v : Int) (nr np : Nat) : endOk 0 v nr np = numOk v := rfl
theorem endOk_1 (v : Int) (nr np : Nat) : endOk 1 v nr np = (v == 0 && decide (np = 0)) := rfl
theorem endOk_2 (v : Int) (nr np : Nat) : endOk 2 v nr np = (v == 0 && decide (np = 0)) := rfl
theorem endOk_3 (v : Int) (nr np : Nat) : endOk 3 v nr np = (v == 0 && decide (np = 0) && decide (nr = 0)) := rfl
theorem endOk_no {k : Int} (v : Int) (nr np : Nat) (h : k ≠ 0 ∧ k ≠ 1 ∧ k ≠ 2 ∧ k ≠ 3) : endOk k v nr np = false := by
  obtain ⟨h0, h1, h2, h3⟩ := h
  simp [endOk, h0, h1, h2, h3]

/-- The boxes that have come, as marks. -/
def seen (xs : List P2) (k : Nat) (j : Nat) : Bool := (xs.take k).any fun p => p.1 == (j : Int)
theorem seen_zero (xs : List P2) (j : Nat) : seen xs 0 j = false := by simp [seen]
theorem seen_succ (xs : List P2) (k j : Nat) (h : k < xs.length) : seen xs (k + 1) j = (seen xs k j || (xs.getD k (0, 0)).1 == (j : Int)) := by
  unfold seen
  rw [List.take_succ_eq_append_getElem h, List.any_append]
  simp [List.getD, h]
theorem okAt_seen (f : Int → Bool) (xs : List P2) (k : Nat) (j : Nat) (hj : (xs.getD k (0, 0)).1 = (j : Int)) : okAt f xs k = (regOk (j : Int) && f (xs.getD k (0, 0)).2 && !seen xs k j) := by
  simp only [okAt, seen, hj]
end Go.Proofs.YtokbakphfodabaaDoor.Own

namespace Go.Proofs.YtokbakphfodabaaDoor.Own
open Go.RowKit

theorem BoxAt.block {w w' : World} {b off : Nat} {xs : List (Int × Int)} (h : BoxAt w b off xs) (hs : w.heap.size ≤ w'.heap.size) (hb : w'.heap[b]? = w.heap[b]?) : BoxAt w' b off xs :=
  ⟨Nat.lt_of_lt_of_le h.1 hs, fun i hi => by
    rw [World.cell?_of_block (w := w) (a := ⟨b, off + i * 2, none⟩) hb, World.cell?_of_block (w := w) (a := ⟨b, off + i * 2 + 1, none⟩) hb]; exact h.2 i hi⟩
end Go.Proofs.YtokbakphfodabaaDoor.Own

namespace Go.Proofs.YtokbakphfodabaaDoor.Own
open Go.RowKit
set_option linter.unusedVariables false

/-- Block b holds these cells, none of them frozen. -/
def Blk (w : World) (b : Nat) (C : Array Value) (t : TypeId) : Prop := w.heap[b]? = some (.cells C t (0, 0))
theorem Blk.cell {w : World} {b : Nat} {C : Array Value} {t : TypeId} (h : Blk w b C t) (o : Nat) : w.cell? ⟨b, o, none⟩ = C[o]? := cell_heap h o
theorem Blk.frozen {w : World} {b : Nat} {C : Array Value} {t : TypeId} (h : Blk w b C t) (o : Nat) : w.frozen? ⟨b, o, none⟩ = false := frozen_heap h o
theorem Blk.lt {w : World} {b : Nat} {C : Array Value} {t : TypeId} (h : Blk w b C t) : b < w.heap.size := (Array.getElem?_eq_some_iff.1 h).1
theorem Blk.below {w w' : World} {b B : Nat} {C : Array Value} {t : TypeId} (h : Blk w b C t) (hb : Below B w w') (hB : b < B) : Blk w' b C t := by
  unfold Blk; rw [hb.block _ hB]; exact h
theorem Blk.keep {w w' : World} {b : Nat} {C : Array Value} {t : TypeId} (h : Blk w b C t) (hb : Below w.heap.size w w') : Blk w' b C t := h.below hb h.lt
theorem Blk.new (w : World) (C : Array Value) (t : TypeId) : Blk (w.alloc (.cells C t)) w.heap.size C t := heap_new _ _
theorem Blk.alloc {w : World} {b : Nat} {C : Array Value} {t : TypeId} (h : Blk w b C t) (o : Obj) : Blk (w.alloc o) b C t := by
  unfold Blk; rw [heap_old _ _ _ h.lt]; exact h
theorem Blk.set {w : World} {b : Nat} {C : Array Value} {t : TypeId} (h : Blk w b C t) (o : Nat) (v : Value) : Blk (w.setCell ⟨b, o, none⟩ v) b (C.setIfInBounds o v) t := by
  have h1 : w.heap[b]? = _ := h
  unfold Blk
  simp [World.setCell, Array.getElem?_modify, h1]
theorem Blk.other {w : World} {b b' : Nat} {C : Array Value} {t : TypeId} (h : Blk w b C t) (hn : b ≠ b') (o : Nat) (v : Value) : Blk (w.setCell ⟨b', o, none⟩ v) b C t := by
  unfold Blk; rw [Below.heap_setCell _ _ _ _ hn]; exact h
theorem Blk.eq {w : World} {b : Nat} {C C' : Array Value} {t : TypeId} (h : Blk w b C t) (e : C = C') : Blk w b C' t := e ▸ h
theorem Blk.new2 (w : World) (o : Obj) (C : Array Value) (t : TypeId) : Blk ((w.alloc o).alloc (.cells C t)) (w.heap.size + 1) C t := heap_new2 _ _ _
theorem Blk.new3 (w : World) (o o' : Obj) (C : Array Value) (t : TypeId) : Blk (((w.alloc o).alloc o').alloc (.cells C t)) (w.heap.size + 1 + 1) C t := by
  have := Blk.new ((w.alloc o).alloc o') C t
  rw [size_new, size_new] at this
  exact this
theorem Blk.cells4 {w : World} {b : Nat} {x0 x1 x2 x3 : Value} {t : TypeId} (h : Blk w b #[x0, x1, x2, x3] t) : w.cell? ⟨b, 0, none⟩ = some x0 ∧ w.cell? ⟨b, 1, none⟩ = some x1 ∧ w.cell? ⟨b, 2, none⟩ = some x2 ∧ w.cell? ⟨b, 3, none⟩ = some x3 :=
  ⟨by rw [h.cell]; rfl, by rw [h.cell]; rfl, by rw [h.cell]; rfl, by rw [h.cell]; rfl⟩
theorem Blk.cells3 {w : World} {b : Nat} {x0 x1 x2 : Value} {t : TypeId} (h : Blk w b #[x0, x1, x2] t) : w.cell? ⟨b, 0, none⟩ = some x0 ∧ w.cell? ⟨b, 1, none⟩ = some x1 ∧ w.cell? ⟨b, 2, none⟩ = some x2 :=
  ⟨by rw [h.cell]; rfl, by rw [h.cell]; rfl, by rw [h.cell]; rfl⟩
theorem Blk.cells2 {w : World} {b : Nat} {x0 x1 : Value} {t : TypeId} (h : Blk w b #[x0, x1] t) : w.cell? ⟨b, 0, none⟩ = some x0 ∧ w.cell? ⟨b, 1, none⟩ = some x1 :=
  ⟨by rw [h.cell]; rfl, by rw [h.cell]; rfl⟩
theorem Blk.cells7 {w : World} {b : Nat} {x0 x1 x2 x3 x4 x5 x6 : Value} {t : TypeId} (h : Blk w b #[x0, x1, x2, x3, x4, x5, x6] t) : w.cell? ⟨b, 0, none⟩ = some x0 ∧ w.cell? ⟨b, 1, none⟩ = some x1 ∧ w.cell? ⟨b, 2, none⟩ = some x2 ∧ w.cell? ⟨b, 3, none⟩ = some x3 ∧ w.cell? ⟨b, 4, none⟩ = some x4 ∧ w.cell? ⟨b, 5, none⟩ = some x5 ∧ w.cell? ⟨b, 6, none⟩ = some x6 :=
  ⟨by rw [h.cell]; rfl, by rw [h.cell]; rfl, by rw [h.cell]; rfl, by rw [h.cell]; rfl, by rw [h.cell]; rfl, by rw [h.cell]; rfl, by rw [h.cell]; rfl⟩
/-- Three cells. -/
def C3 (w : World) (b : Nat) (x0 x1 x2 : Value) : Prop := b < w.heap.size ∧ w.cell? ⟨b, 0, none⟩ = some x0 ∧ w.cell? ⟨b, 1, none⟩ = some x1 ∧ w.cell? ⟨b, 2, none⟩ = some x2
theorem C3.below {w w' : World} {b : Nat} {x0 x1 x2 : Value} (h : C3 w b x0 x1 x2) (hb : Below w.heap.size w w') : C3 w' b x0 x1 x2 := by
  have e := fun o => hb.cell (p := ⟨b, o, none⟩) h.1
  exact ⟨Nat.lt_of_lt_of_le h.1 hb.size, by rw [e, e, e]; exact h.2⟩
theorem C3.new (w : World) (x0 x1 x2 : Value) (t : TypeId) : C3 (w.alloc (.cells #[x0, x1, x2] t)) w.heap.size x0 x1 x2 :=
  ⟨by rw [size_new]; omega, (Blk.new _ _ _).cells3⟩
theorem C3.alloc {w : World} {b : Nat} {x0 x1 x2 : Value} (h : C3 w b x0 x1 x2) (o : Obj) : C3 (w.alloc o) b x0 x1 x2 := h.below ((Below.refl _ _).alloc (Nat.le_refl _) _)
/-- Seven cells. -/
def C7 (w : World) (b : Nat) (x0 x1 x2 x3 x4 x5 x6 : Value) : Prop := b < w.heap.size ∧ w.cell? ⟨b, 0, none⟩ = some x0 ∧ w.cell? ⟨b, 1, none⟩ = some x1 ∧ w.cell? ⟨b, 2, none⟩ = some x2 ∧ w.cell? ⟨b, 3, none⟩ = some x3 ∧ w.cell? ⟨b, 4, none⟩ = some x4 ∧ w.cell? ⟨b, 5, none⟩ = some x5 ∧ w.cell? ⟨b, 6, none⟩ = some x6
theorem C7.below {w w' : World} {b : Nat} {x0 x1 x2 x3 x4 x5 x6 : Value} (h : C7 w b x0 x1 x2 x3 x4 x5 x6) (hb : Below w.heap.size w w') : C7 w' b x0 x1 x2 x3 x4 x5 x6 := by
  have e := fun o => hb.cell (p := ⟨b, o, none⟩) h.1
  exact ⟨Nat.lt_of_lt_of_le h.1 hb.size, by rw [e, e, e, e, e, e, e]; exact h.2⟩
theorem C7.new (w : World) (x0 x1 x2 x3 x4 x5 x6 : Value) (t : TypeId) : C7 (w.alloc (.cells #[x0, x1, x2, x3, x4, x5, x6] t)) w.heap.size x0 x1 x2 x3 x4 x5 x6 :=
  ⟨by rw [size_new]; omega, (Blk.new _ _ _).cells7⟩
theorem C7.alloc {w : World} {b : Nat} {x0 x1 x2 x3 x4 x5 x6 : Value} (h : C7 w b x0 x1 x2 x3 x4 x5 x6) (o : Obj) : C7 (w.alloc o) b x0 x1 x2 x3 x4 x5 x6 := h.below ((Below.refl _ _).alloc (Nat.le_refl _) _)
end Go.Proofs.YtokbakphfodabaaDoor.Own
