/-
  Own texts, bundled: BuilderG, EntTextI.
-/
import Derived.Test.YtmcpefikmcaemaaGreatDoorPk1
import Derived.Lib.Builder
import Derived.Lib.AppendStr
import Derived.Lib.UnsafeStr
import Derived.Lib.OthersKept
import Derived.Laws.Externs
import Derived.OwnWalk
import Derived.Test.YtmcpefikmcaemaaGreatDoorPk6
namespace Go.Proofs.YtmcpefikmcaemaaGreatDoor.Own
open Go.RowKit
set_option linter.unusedVariables false

/-- A struct of two cells whose head is a builder. -/
def Heads (T : TypeId) : Prop := liesAt Tryz.prog Tryz.prog.depth T (2 / Tryz.prog.cellsOf T) 0 84 1 = true ∧ T ≠ 5
theorem headsEntry : Heads 88 := ⟨by kernel_rfl, by decide⟩

set_option maxHeartbeats 1000000 in
set_option maxRecDepth 100000 in
theorem copyCheckFreshG (T : TypeId) (hT : Heads T) (b : Nat) (w : World) (h0 : w.cell? ⟨b, 0, none⟩ = some (.pointer none)) (hsh : w.shape? b = some (T, 2)) (hfz : w.frozen? ⟨b, 0, none⟩ = false) :
    Calls Tryz.prog 122 #[.pointer (some ⟨b, 0, none⟩)] w fun e w' => e = .returned (.tuple #[]) ∧ w' = w.setCell ⟨b, 0, none⟩ (.pointer (some ⟨b, 0, none⟩)) := by
  obtain ⟨j, hj, hjs⟩ := Option.map_eq_some_iff.1 sizeBuilder
  go_enter Tryz.func122, Tryz.ntmps122
  go_wp2
  rw [Lib.run_to_unsafe w ⟨b, 0, none⟩ Tryz.underlying82 Tryz.underlying242 hj (by rw [hjs]; decide) hsh (Nat.zero_lt_succ 1)]
  simp only [Result.andThen]
  rw [Oper.upon_value]
  go_wp2
  rw [run_callFunc_extern Tryz.func155 (by kernel_rfl) (by kernel_rfl) (by kernel_rfl) (e := Extern.AbiNoEscape.same) (by kernel_rfl)]
  rw [Lib.run_noEscape]
  simp only [Result.andThen]
  rw [Oper.upon_value]
  go_wp2
  rw [Lib.run_from_unsafe w ⟨b, 0, none⟩ Tryz.underlying242 Tryz.underlying82 hj hsh hT.1]
  simp only [Result.andThen]
  rw [Oper.upon_value]
  go_wp2
  go_end0
  exact ⟨rfl, rfl⟩

theorem copyCheckG (T : TypeId) (hT : Heads T) (B b : Nat) (bs : List Value) (w : World) (h : Lib.IsBuilder T 5 B b bs w) :
    Calls Tryz.prog 122 #[.pointer (some ⟨b, 0, none⟩)] w fun e w' => e = .returned (.tuple #[]) ∧ Lib.BuilderAt T 5 B b (.pointer (some ⟨b, 0, none⟩)) bs w' ∧ Below B w w' ∧ Lib.OthersKept 5 (some b) w w' := by
  rcases h with h | h
  · refine (copyCheckFreshG T hT b w h.cell0 h.shape h.frozen0).mono ?_
    rintro e w' ⟨rfl, rfl⟩
    exact ⟨rfl, h.used _, (Below.refl B w).setCell (p := ⟨b, 0, none⟩) h.1 _, (Lib.OthersKept.refl _ _ w).setCell ⟨b, 0, none⟩ rfl _⟩
  · refine (copyCheckUsed b w h.cell0).mono ?_
    rintro e w' ⟨rfl, rfl⟩
    exact ⟨rfl, h, Below.refl B _, Lib.OthersKept.refl _ _ _⟩

set_option maxHeartbeats 2000000 in
set_option maxRecDepth 100000 in
theorem writeStringG (T : TypeId) (hT : Heads T) (B b : Nat) (bs : List Value) (s : ByteArray) (w : World) (h : Lib.IsBuilder T 5 B b bs w) (hlen : bs.length + s.size ≤ 140737488355328) (hBw : B ≤ w.heap.size) :
    Calls Tryz.prog 78 #[.pointer (some ⟨b, 0, none⟩), .string s] w fun e w' => e = .returned (.tuple #[.int .i64 s.size, .nilIface]) ∧ Lib.BuilderAt T 5 B b (.pointer (some ⟨b, 0, none⟩)) (bs ++ Lib.strCells s) w' ∧ Below B w w' ∧ Lib.OthersKept 5 (some b) w w' := by
  obtain ⟨i0, hi, hz0, hz1, hz2⟩ := info_parts infoByte
  go_enter Tryz.func78, Tryz.ntmps78
  go_wp2_with (go_at_call 122; refine (copyCheckG T hT B b bs _ h).mono ?_)
  rintro e w1 ⟨rfl, h1, hb1, hk1⟩
  obtain ⟨hB, v, hbk, hown, hne⟩ := h1
  have c0 : w1.cell? ⟨b, 0, none⟩ = some (.pointer (some ⟨b, 0, none⟩)) := by rw [Lib.cell_of_heap hbk]; rfl
  have c1 : w1.cell? ⟨b, 1, none⟩ = some v := by rw [Lib.cell_of_heap hbk]; rfl
  go_wp2_with (at_builtin; refine Lib.wpList_append_own_string _ rfl _ _ 22 9 rfl B 5 i0 Tryz.underlying22 Tryz.underlying9 hi hz0 hz1 hz2 _ _ _ rfl hown s rfl ?c3 ?c4 ?c5 ?_)
  case c3 => unfold maxLen; omega
  case c4 => omega
  case c5 => have := hb1.size; omega
  intro v' w2 hown' hgrow _
  have hlt : b < w1.heap.size := by
    rcases Nat.lt_or_ge b w1.heap.size with h' | h'
    · exact h'
    · simp [Array.getElem?_eq_none h'] at hbk
  have hb2 : w2.heap[b]? = some (.cells #[.pointer (some ⟨b, 0, none⟩), v] T (0, 0)) := by
    rw [hgrow.block b hlt (fun e => hne e.symm)]
    exact hbk
  have d0 : w2.cell? ⟨b, 0, none⟩ = some (.pointer (some ⟨b, 0, none⟩)) := by rw [Lib.cell_of_heap hb2]; rfl
  have d1 : w2.cell? ⟨b, 1, none⟩ = some v := by rw [Lib.cell_of_heap hb2]; rfl
  have f1 : w2.frozen? ⟨b, 1, none⟩ = false := Lib.frozen_of_heap hb2 1
  obtain ⟨ao, n', cap, rfl⟩ : ∃ ao n' cap, v' = .slice ao n' cap := by
    rcases hown'.2 with ⟨hv, _⟩ | ⟨g, cap, cur, hv, _⟩
    · exact ⟨_, _, _, hv⟩
    · exact ⟨_, _, _, hv⟩
  go_wp2
  go_ret2
  refine ⟨rfl, ?_, ?_, (hk1.grown hgrow (ownsRow_kind hown)).setCell ⟨b, 1, none⟩ rfl _⟩
  · exact Lib.BuilderAt.put (T := T) (e := 5) hB hb2 (bs' := bs ++ Lib.strCells s) (by simpa [Lib.strCells_length] using hown') hT.2
  · exact (hb1.grown hgrow (by have := hb1.size; omega) (fun k hk => (hown.lt k hk).1)).setCell (p := ⟨b, 1, none⟩) hB _
set_option maxHeartbeats 1000000 in
set_option maxRecDepth 100000 in
theorem stringG (T : TypeId) (B b : Nat) (l : List UInt8) (w : World) (h : Lib.IsBuilder T 5 B b (Lib.byteCells l) w) (h0 : l ≠ []) :
    Calls Tryz.prog 31 #[.pointer (some ⟨b, 0, none⟩)] w fun e w' => e = .returned (.string ⟨l.toArray⟩) ∧ Below B w w' := by
  obtain ⟨p, hB, v, hbk, hown, hne⟩ : ∃ p, Lib.BuilderAt T 5 B b p (Lib.byteCells l) w := by
    rcases h with h | h
    · exact ⟨_, h⟩
    · exact ⟨_, h⟩
  have hl0 : l.length ≠ 0 := by simpa using h0
  rw [Lib.byteCells_length] at hown
  obtain ⟨g, cap, cur, rfl, hbg, hg, hnc, hcm, hcs, htake⟩ : ∃ g cap cur, v = .slice (some ⟨g, 0, none⟩) l.length cap ∧ B ≤ g ∧ w.heap[g]? = some (.cells cur 5 (0, 0)) ∧ l.length ≤ cap ∧ cap ≤ maxLen ∧ cur.size = cap * 1 ∧ cur.toList.take (l.length * 1) = Lib.byteCells l := by
    rcases hown.2 with ⟨_, hz⟩ | ⟨g, cap, cur, hv, r⟩
    · exact absurd hz hl0
    · exact ⟨g, cap, cur, hv, r⟩
  have c1 : w.drew.cell? ⟨b, 1, none⟩ = some (.slice (some ⟨g, 0, none⟩) l.length cap) := by
    have : w.drew.heap[b]? = some (.cells #[p, .slice (some ⟨g, 0, none⟩) l.length cap] T (0, 0)) := hbk
    rw [Lib.cell_of_heap this]; rfl
  have hSD : (Builtin.unsafeSliceData_ #[22] 160 #[.slice (some ⟨g, 0, none⟩) l.length cap]).run Tryz.prog w.drew = .ok (.pointer (some ⟨g, 0, none⟩)) w.drew :=
    Lib.run_unsafeSliceData_row _ _ _ _ _ _ (by omega)
  have hUS : (Builtin.unsafeString_ #[160, 3] 9 #[.pointer (some ⟨g, 0, none⟩), .int .i64 l.length]).run Tryz.prog w.drew = .ok (.string ⟨l.toArray⟩) (w.drew.freeze ⟨g, 0, none⟩ l.length) := by
    refine Lib.run_unsafeString_row w.drew 160 3 9 5 Tryz.underlying160 (by kernel_rfl) g cur.size (by have hg' : w.drew.heap[g]? = some (.cells cur 5 (0, 0)) := hg; simp [World.shape?, hg']) l h0 (by omega) (by unfold maxLen at hcm; omega) ?_
    intro j x hx
    have := hown.cells (g := g) rfl j (.int .u8 x.toNat) (by simp [Lib.byteCells, hx])
    exact this
  have mixed : Tryz.prog.follows Departure.mixedOrders = true := by kernel_rfl
  go_enter Tryz.func31, Tryz.ntmps31
  go_wp2
  go_region_o
  all_goals (go_wp2; go_ret; exact ⟨rfl, Lib.below_freeze (Below.drew (Below.refl B w)) (p := ⟨g, 0, none⟩) hbg _⟩)
end Go.Proofs.YtmcpefikmcaemaaGreatDoor.Own

namespace Go.Proofs.YtmcpefikmcaemaaGreatDoor.Own
open Go.RowKit
set_option linter.unusedVariables false
set_option linter.unusedSimpArgs false

/-- A builder at the head of block b holds this text. -/
def Bd (T : TypeId) (B b : Nat) (l : List UInt8) (w : World) : Prop := Lib.IsBuilder T 5 B b (Lib.byteCells l) w
theorem Bd.below {T : TypeId} {B b : Nat} {l : List UInt8} {w w' : World} (h : Bd T B b l w) (hb : Below w.heap.size w w') : Bd T B b l w' := isBuilder_keep h hb
theorem Bd.eq {T : TypeId} {B b : Nat} {l l' : List UInt8} {w : World} (h : Bd T B b l w) (e : l = l') : Bd T B b l' w := e ▸ h
theorem Bd.lt {T : TypeId} {B b : Nat} {l : List UInt8} {w : World} (h : Bd T B b l w) : b < w.heap.size := by
  rcases h with h | h
  · exact h.lt
  · exact h.lt
theorem kept_below {T : TypeId} {b : Nat} {w w' : World} (h : Below w.heap.size w w') : Lib.OthersKept T (some b) w w' := fun k o hk _ _ => by
  rw [h.block k (Array.getElem?_eq_some_iff.1 hk).1]; exact hk
theorem Blk.kept {w w' : World} {pb b : Nat} {C : Array Value} {t : TypeId} (h : Blk w pb C t) (k : Lib.OthersKept 5 (some b) w w') (hn : pb ≠ b) (ht : t ≠ 5) : Blk w' pb C t :=
  k pb _ h (fun e => hn (Option.some.inj e)) (fun c fz e => by injection e with _ e2 _; exact ht e2)

set_option maxRecDepth 100000 in
set_option maxHeartbeats 2000000 in
theorem writeG (T : TypeId) (hT : Heads T) (B b : Nat) (l m : List UInt8) (w : World) (h : Bd T B b l w) (hlen : l.length + m.length ≤ 2 ^ 46) (hBw : B ≤ w.heap.size) :
    Calls Tryz.prog 78 #[.pointer (some ⟨b, 0, none⟩), .string (str m)] w fun e w' => e = .returned (.tuple #[.int .i64 m.length, .nilIface]) ∧ Bd T B b (l ++ m) w' ∧ Below B w w' ∧ Lib.OthersKept 5 (some b) w w' := by
  have hml : (str m).size = m.length := str_size m
  refine (writeStringG T hT B b (Lib.byteCells l) (str m) w h (by rw [Lib.byteCells_length, hml]; omega) hBw).mono ?_
  rintro e w' ⟨rfl, d1, b1, k1⟩
  rw [cells_snoc] at d1
  exact ⟨by rw [hml], .inr d1, b1, k1⟩

set_option maxRecDepth 100000 in
set_option maxHeartbeats 2000000 in
theorem implNumber (T : TypeId) (hT : Heads T) (B b : Nat) (l m : List UInt8) (z : Int) (w : World) (h : Bd T B b l w) (hz : Fits z) (hB : ∀ w', Below B w w' → Tab w') (hlen : l.length + m.length ≤ 2 ^ 44) (hBw : B ≤ w.heap.size) :
    Calls Tryz.prog 79 #[.pointer (some ⟨b, 0, none⟩), .string (str m), .int .i64 z] w fun e w' => e = .returned (.tuple #[]) ∧ Bd T B b (l ++ (m ++ Lib.itoa z)) w' ∧ Below B w w' ∧ Lib.OthersKept 5 (some b) w w' := by
  have HB : Hid (∀ w', Below B w w' → Tab w') := hB
  have ZL := itoa_len z hz
  have C1 : Hid _ := writeG T hT B b l m w h (by omega) hBw
  obtain ⟨s, hs⟩ : ∃ s, s = str m := ⟨_, rfl⟩
  rw [← hs] at C1 ⊢
  clear hs
  obtain ⟨t, et⟩ : ∃ t, t = str (Lib.itoa z) := ⟨_, rfl⟩
  have CI : Hid (∀ w', Tab w' → Calls Tryz.prog 123 #[.int .i64 z] w' fun e w'' => e = .returned (.string t) ∧ Below w'.heap.size w' w'') := fun w' ht => by rw [et]; exact itoaC z w' hz ht
  have C2 : Hid (∀ w', Bd T B b (l ++ m) w' → B ≤ w'.heap.size → Calls Tryz.prog 78 #[.pointer (some ⟨b, 0, none⟩), .string t] w' fun e w'' => e = .returned (.tuple #[.int .i64 (Lib.itoa z).length, .nilIface]) ∧ Bd T B b (l ++ (m ++ Lib.itoa z)) w'' ∧ Below B w' w'' ∧ Lib.OthersKept 5 (some b) w' w'') := fun w' h' hb' => by
    have h2 := writeG T hT B b (l ++ m) (Lib.itoa z) w' h' (by rw [List.length_append]; omega) hb'
    rw [← et, List.append_assoc] at h2
    exact h2
  clear et h hB ZL
  go_enter Tryz.func79, Tryz.ntmps79
  go_wp2_with fail
  refine Calls.mono C1.out ?_
  rintro e w1 ⟨rfl, d1, b1, k1⟩
  have D1 : Hid (Bd T B b (l ++ m) w1) := d1
  have B1 : Hid (Below B w w1) := b1
  have K1 : Hid (Lib.OthersKept 5 (some b) w w1) := k1
  have S1 : Hid (B ≤ w1.heap.size) := Nat.le_trans hBw b1.size
  clear d1 b1 k1
  go_wp2_with fail
  go_region_with (first | (go_at_call 123; refine (CI.out _ ?_).mono ?_; exact HB.out _ (Below.drew B1.out); rintro e w2 ⟨rfl, b2⟩; have X2 : Hid (Below w1.heap.size w1 w2) := Below.trans (Below.drew (Below.refl _ _)) b2; have D2 : Hid (Bd T B b (l ++ m) w2) := D1.out.below X2.out; have K2 : Hid (Lib.OthersKept 5 (some b) w w2) := K1.out.trans (kept_below X2.out); have B2 : Hid (Below B w w2) := B1.out.trans (X2.out.mono S1.out); clear b2) | (go_at_call 78; refine (C2.out w2 D2.out (Nat.le_trans hBw B2.out.size)).mono ?_; rintro e w3 ⟨rfl, d3, b3, k3⟩; have D3 : Hid (Bd T B b (l ++ (m ++ Lib.itoa z)) w3) := d3; have B3 : Hid (Below B w w3) := B2.out.trans b3; have K3 : Hid (Lib.OthersKept 5 (some b) w w3) := K2.out.trans k3; clear d3 b3 k3))
  all_goals
    go_wp2
    go_end0
    exact ⟨rfl, D3.out, B3.out, K3.out⟩
end Go.Proofs.YtmcpefikmcaemaaGreatDoor.Own
