/-
  Own texts, bundled: MsgTextM, BuilderG, EntTextI, EntTextE, MsgTextV.
-/
import Derived.Test.YtildonpdmmliaaaGreatDoorPk3
import Derived.Test.YtildonpdmmliaaaGreatDoorPk6
import Derived.Test.YtildonpdmmliaaaGreatDoorPk1
import Derived.Lib.Builder
import Derived.Lib.AppendStr
import Derived.Lib.UnsafeStr
import Derived.Lib.OthersKept
import Derived.Laws.Externs
import Derived.OwnWalk
import Derived.Deep.Cut
namespace Go.Proofs.YtildonpdmmliaaaGreatDoor.Own
open Go.RowKit
set_option linter.unusedVariables false

def WfV (x : V) : Prop := Fits x.1 ∧ WfE x.2
def WfVs (bs : List V) : Prop := ∀ i, i < bs.length → WfV (bs.getD i (0, e0))
def WfM (x : MM) : Prop := Fits x.kind ∧ Fits x.src ∧ Fits x.dst ∧ Fits x.bal ∧ Fits x.slot ∧ WfE x.b ∧ WfVs (bodies x.vs)
def numText (z : Int) : List UInt8 := 32 :: Lib.itoa z
def voteText (x : V) : List UInt8 := numText x.1 ++ (if x.1 = 0 then [] else entText x.2)
/-- The first k votes, behind what is there already. -/
def votesTo (l : List UInt8) (bs : List V) : Nat → List UInt8
  | 0 => l
  | k + 1 => votesTo l bs k ++ voteText (bs.getD k (0, e0))
def hasEnt (kind : Int) : Bool := decide (kind = 3) || decide (kind = 5) || decide (kind = 7)
/-- The word, and the four numbers. -/
def headM (x : MM) : List UInt8 := (wordOf x.kind).data.toList ++ numText x.src ++ numText x.dst ++ numText x.bal ++ numText x.slot
def midM (x : MM) : List UInt8 := if hasEnt x.kind then headM x ++ (32 :: entText x.b) else headM x
def coreText (x : MM) : List UInt8 := votesTo (midM x) (bodies x.vs) (bodies x.vs).length
def msgText (x : MM) : List UInt8 := if msgOk x then coreText x else []
theorem coreText_cp (x : MM) (g : GM) : coreText (cpM g x) = coreText x := by
  have e : bodies (cpM g x).vs = bodies x.vs := vmsOf_bodies _ _
  unfold coreText
  rw [e]
  rfl
theorem msgText_cp (x : MM) (g : GM) : msgText (cpM g x) = msgText x := by
  unfold msgText
  rw [msgOk_cp, coreText_cp]
theorem word_len (kind : Int) : (wordOf kind).data.toList.length ≤ 9 := by
  rcases kind_cases kind with rfl | rfl | rfl | rfl | rfl | rfl | rfl | rfl | h
  case inr.inr.inr.inr.inr.inr.inr.inr =>
    obtain ⟨g1, g2, g3, g4, g5, g6, g7, g8⟩ := h
    have : wordOf kind = ⟨#[]⟩ := by simp [wordOf, g1, g2, g3, g4, g5, g6, g7, g8]
    rw [this]
    simp
  all_goals simp [wordOf]
theorem num_len (z : Int) (h : Fits z) : (numText z).length ≤ 22 := by
  have := itoa_len z h
  simp only [numText, List.length_cons]; omega
theorem headM_len (x : MM) (h : WfM x) : (headM x).length ≤ 97 := by
  obtain ⟨_, f1, f2, f3, f4, _⟩ := h
  have := word_len x.kind
  have := num_len _ f1; have := num_len _ f2; have := num_len _ f3; have := num_len _ f4
  simp only [headM, List.length_append]; omega
theorem midM_len (x : MM) (h : WfM x) (hs : x.b.xs.length + x.b.ys.length ≤ 2 ^ 21) : (midM x).length ≤ 2 ^ 28 := by
  have h1 := headM_len x h
  have h2 := entText_len x.b h.2.2.2.2.2.1
  unfold midM
  split
  · simp only [List.length_append, List.length_cons]; omega
  · omega
theorem voteText_len (x : V) (h : WfV x) (hs : x.2.xs.length + x.2.ys.length ≤ 2 ^ 21) : (voteText x).length ≤ 2 ^ 28 := by
  have h1 := num_len _ h.1
  have h2 := entText_len x.2 h.2
  unfold voteText
  split
  · simp only [List.length_append, List.length_nil]; omega
  · simp only [List.length_append]; omega
theorem votesTo_len (l : List UInt8) (bs : List V) (h : WfVs bs) (hs : ∀ i, i < bs.length → (bs.getD i (0, e0)).2.xs.length + (bs.getD i (0, e0)).2.ys.length ≤ 2 ^ 21) (k : Nat) (hk : k ≤ bs.length) : (votesTo l bs k).length ≤ l.length + 2 ^ 28 * k := by
  induction k with
  | zero => simp [votesTo]
  | succ k ih =>
    have := ih (by omega)
    have := voteText_len _ (h k (by omega)) (hs k (by omega))
    simp only [votesTo, List.length_append]
    omega
theorem hasEnt_iff {kind : Int} : hasEnt kind = true ↔ (kind = 3 ∨ kind = 5 ∨ kind = 7) := by simp [hasEnt, or_assoc]
/-- Of a message that is one: its votes are at most 40, and there are some in promises alone; each is right or none. -/
theorem msgOk_votes {x : MM} (h : msgOk x = true) : (bodies x.vs).length ≤ 40 ∧ (x.kind ≠ 2 → bodies x.vs = []) ∧ ∀ i, i < (bodies x.vs).length → voteOk ((bodies x.vs).getD i (0, e0)) = true := by
  have hf : formOk x.kind x.bal x.slot x.b (bodies x.vs) = true := by
    simp [msgOk] at h
    exact h.2
  by_cases hk : x.kind = 2
  · rw [hk] at hf
    simp [formOk] at hf
    have hv : votesOk (bodies x.vs) = true := hf.2.1
    unfold votesOk at hv
    rw [Bool.and_eq_true] at hv
    refine ⟨by simpa using hv.1, fun h => absurd hk h, fun i hi => ?_⟩
    have := hv.2
    rw [List.all_eq_true] at this
    exact this _ (by simp [List.getD, hi])
  · have : bodies x.vs = [] := by
      by_cases h0 : 0 < (bodies x.vs).length
      · rw [form_votes hk h0] at hf; cases hf
      · exact List.eq_nil_of_length_eq_zero (by omega)
    rw [this]
    exact ⟨by simp, fun _ => rfl, fun i hi => by simp at hi⟩
theorem msgOk_kind {x : MM} (h : msgOk x = true) : 1 ≤ x.kind ∧ x.kind ≤ 8 := by
  have hf : formOk x.kind x.bal x.slot x.b (bodies x.vs) = true := by
    simp [msgOk] at h
    exact h.2
  rw [formOk_parts] at hf
  simp at hf
  have := hf.1.1.1.1
  simpa [isKind] using this
theorem voteOk_pos {x : V} (h : voteOk x = true) : x.1 = 0 ∨ 0 < x.1 := by
  unfold voteOk at h
  split at h
  · left; assumption
  · rw [Bool.and_eq_true] at h
    have := isBal_iff.1 h.1
    right; omega
end Go.Proofs.YtildonpdmmliaaaGreatDoor.Own

namespace Go.Proofs.YtildonpdmmliaaaGreatDoor.Own
open Go.RowKit
set_option linter.unusedVariables false

/-- A struct of two cells whose head is a builder. -/
def Heads (T : TypeId) : Prop := liesAt Tryz.prog Tryz.prog.depth T (2 / Tryz.prog.cellsOf T) 0 62 1 = true ∧ T ≠ 5
theorem headsEntry : Heads 66 := ⟨by kernel_rfl, by decide⟩

set_option maxHeartbeats 1000000 in
set_option maxRecDepth 100000 in
theorem copyCheckFreshG (T : TypeId) (hT : Heads T) (b : Nat) (w : World) (h0 : w.cell? ⟨b, 0, none⟩ = some (.pointer none)) (hsh : w.shape? b = some (T, 2)) (hfz : w.frozen? ⟨b, 0, none⟩ = false) :
    Calls Tryz.prog 54 #[.pointer (some ⟨b, 0, none⟩)] w fun e w' => e = .returned (.tuple #[]) ∧ w' = w.setCell ⟨b, 0, none⟩ (.pointer (some ⟨b, 0, none⟩)) := by
  obtain ⟨j, hj, hjs⟩ := Option.map_eq_some_iff.1 sizeBuilder
  go_enter Tryz.func54, Tryz.ntmps54
  go_wp2
  rw [Lib.run_to_unsafe w ⟨b, 0, none⟩ Tryz.underlying59 Tryz.underlying129 hj (by rw [hjs]; decide) hsh (Nat.zero_lt_succ 1)]
  simp only [Result.andThen]
  rw [Oper.upon_value]
  go_wp2
  rw [run_callFunc_extern Tryz.func67 (by kernel_rfl) (by kernel_rfl) (by kernel_rfl) (e := Extern.AbiNoEscape.same) (by kernel_rfl)]
  rw [Lib.run_noEscape]
  simp only [Result.andThen]
  rw [Oper.upon_value]
  go_wp2
  rw [Lib.run_from_unsafe w ⟨b, 0, none⟩ Tryz.underlying129 Tryz.underlying59 hj hsh hT.1]
  simp only [Result.andThen]
  rw [Oper.upon_value]
  go_wp2
  go_end0
  exact ⟨rfl, rfl⟩

theorem copyCheckG (T : TypeId) (hT : Heads T) (B b : Nat) (bs : List Value) (w : World) (h : Lib.IsBuilder T 5 B b bs w) :
    Calls Tryz.prog 54 #[.pointer (some ⟨b, 0, none⟩)] w fun e w' => e = .returned (.tuple #[]) ∧ Lib.BuilderAt T 5 B b (.pointer (some ⟨b, 0, none⟩)) bs w' ∧ Below B w w' ∧ Lib.OthersKept 5 (some b) w w' := by
  rcases h with h | h
  · refine (copyCheckFreshG T hT b w h.cell0 h.shape h.frozen0).mono ?_
    rintro e w' ⟨rfl, rfl⟩
    exact ⟨rfl, h.used _, (Below.refl B w).setCell (p := ⟨b, 0, none⟩) h.1 _, (Lib.OthersKept.refl _ _ w).setCell ⟨b, 0, none⟩ rfl _⟩
  · refine (copyCheckUsed b w h.cell0).mono ?_
    rintro e w' ⟨rfl, rfl⟩
    exact ⟨rfl, h, Below.refl B _, Lib.OthersKept.refl _ _ _⟩

set_option maxHeartbeats 2000000 in
set_option maxRecDepth 100000 in
theorem writeStringG (T : TypeId) (hT : Heads T) (B b : Nat) (bs : List Value) (s : ByteArray) (w : World) (h : Lib.IsBuilder T 5 B b bs w) (hlen : bs.length + s.size ≤ 140737488355328) (hBw : B ≤ w.heap.size) :
    Calls Tryz.prog 34 #[.pointer (some ⟨b, 0, none⟩), .string s] w fun e w' => e = .returned (.tuple #[.int .i64 s.size, .nilIface]) ∧ Lib.BuilderAt T 5 B b (.pointer (some ⟨b, 0, none⟩)) (bs ++ Lib.strCells s) w' ∧ Below B w w' ∧ Lib.OthersKept 5 (some b) w w' := by
  obtain ⟨i0, hi, hz0, hz1, hz2⟩ := info_parts infoByte
  go_enter Tryz.func34, Tryz.ntmps34
  go_wp2_with (go_at_call 54; refine (copyCheckG T hT B b bs _ h).mono ?_)
  rintro e w1 ⟨rfl, h1, hb1, hk1⟩
  obtain ⟨hB, v, hbk, hown, hne⟩ := h1
  have c0 : w1.cell? ⟨b, 0, none⟩ = some (.pointer (some ⟨b, 0, none⟩)) := by rw [Lib.cell_of_heap hbk]; rfl
  have c1 : w1.cell? ⟨b, 1, none⟩ = some v := by rw [Lib.cell_of_heap hbk]; rfl
  go_wp2_with (at_builtin; refine Lib.wpList_append_own_string _ rfl _ _ 60 9 rfl B 5 i0 Tryz.underlying60 Tryz.underlying9 hi hz0 hz1 hz2 _ _ _ rfl hown s rfl ?c3 ?c4 ?c5 ?_)
  case c3 => unfold maxLen; omega
  case c4 => omega
  case c5 => have := hb1.size; omega
  intro v' w2 hown' hgrow _
  have hlt : b < w1.heap.size := by
    rcases Nat.lt_or_ge b w1.heap.size with h' | h'
    · exact h'
    · simp [Array.getElem?_eq_none h'] at hbk
  have hb2 : w2.heap[b]? = some (.cells #[.pointer (some ⟨b, 0, none⟩), v] T (0, 0)) := by
    rw [hgrow.block b hlt (fun e => hne e.symm)]
    exact hbk
  have d0 : w2.cell? ⟨b, 0, none⟩ = some (.pointer (some ⟨b, 0, none⟩)) := by rw [Lib.cell_of_heap hb2]; rfl
  have d1 : w2.cell? ⟨b, 1, none⟩ = some v := by rw [Lib.cell_of_heap hb2]; rfl
  have f1 : w2.frozen? ⟨b, 1, none⟩ = false := Lib.frozen_of_heap hb2 1
  obtain ⟨ao, n', cap, rfl⟩ : ∃ ao n' cap, v' = .slice ao n' cap := by
    rcases hown'.2 with ⟨hv, _⟩ | ⟨g, cap, cur, hv, _⟩
    · exact ⟨_, _, _, hv⟩
    · exact ⟨_, _, _, hv⟩
  go_wp2
  go_ret2
  refine ⟨rfl, ?_, ?_, (hk1.grown hgrow (ownsRow_kind hown)).setCell ⟨b, 1, none⟩ rfl _⟩
  · exact Lib.BuilderAt.put (T := T) (e := 5) hB hb2 (bs' := bs ++ Lib.strCells s) (by simpa [Lib.strCells_length] using hown') hT.2
  · exact (hb1.grown hgrow (by have := hb1.size; omega) (fun k hk => (hown.lt k hk).1)).setCell (p := ⟨b, 1, none⟩) hB _
set_option maxHeartbeats 1000000 in
set_option maxRecDepth 100000 in
theorem stringG (T : TypeId) (B b : Nat) (l : List UInt8) (w : World) (h : Lib.IsBuilder T 5 B b (Lib.byteCells l) w) (h0 : l ≠ []) :
    Calls Tryz.prog 19 #[.pointer (some ⟨b, 0, none⟩)] w fun e w' => e = .returned (.string ⟨l.toArray⟩) ∧ Below B w w' := by
  obtain ⟨p, hB, v, hbk, hown, hne⟩ : ∃ p, Lib.BuilderAt T 5 B b p (Lib.byteCells l) w := by
    rcases h with h | h
    · exact ⟨_, h⟩
    · exact ⟨_, h⟩
  have hl0 : l.length ≠ 0 := by simpa using h0
  rw [Lib.byteCells_length] at hown
  obtain ⟨g, cap, cur, rfl, hbg, hg, hnc, hcm, hcs, htake⟩ : ∃ g cap cur, v = .slice (some ⟨g, 0, none⟩) l.length cap ∧ B ≤ g ∧ w.heap[g]? = some (.cells cur 5 (0, 0)) ∧ l.length ≤ cap ∧ cap ≤ maxLen ∧ cur.size = cap * 1 ∧ cur.toList.take (l.length * 1) = Lib.byteCells l := by
    rcases hown.2 with ⟨_, hz⟩ | ⟨g, cap, cur, hv, r⟩
    · exact absurd hz hl0
    · exact ⟨g, cap, cur, hv, r⟩
  have c1 : w.drew.cell? ⟨b, 1, none⟩ = some (.slice (some ⟨g, 0, none⟩) l.length cap) := by
    have : w.drew.heap[b]? = some (.cells #[p, .slice (some ⟨g, 0, none⟩) l.length cap] T (0, 0)) := hbk
    rw [Lib.cell_of_heap this]; rfl
  have hSD : (Builtin.unsafeSliceData_ #[60] 101 #[.slice (some ⟨g, 0, none⟩) l.length cap]).run Tryz.prog w.drew = .ok (.pointer (some ⟨g, 0, none⟩)) w.drew :=
    Lib.run_unsafeSliceData_row _ _ _ _ _ _ (by omega)
  have hUS : (Builtin.unsafeString_ #[101, 3] 9 #[.pointer (some ⟨g, 0, none⟩), .int .i64 l.length]).run Tryz.prog w.drew = .ok (.string ⟨l.toArray⟩) (w.drew.freeze ⟨g, 0, none⟩ l.length) := by
    refine Lib.run_unsafeString_row w.drew 101 3 9 5 Tryz.underlying101 (by kernel_rfl) g cur.size (by have hg' : w.drew.heap[g]? = some (.cells cur 5 (0, 0)) := hg; simp [World.shape?, hg']) l h0 (by omega) (by unfold maxLen at hcm; omega) ?_
    intro j x hx
    have := hown.cells (g := g) rfl j (.int .u8 x.toNat) (by simp [Lib.byteCells, hx])
    exact this
  have mixed : Tryz.prog.follows Departure.mixedOrders = true := by kernel_rfl
  go_enter Tryz.func19, Tryz.ntmps19
  go_wp2
  go_region_o
  all_goals (go_wp2; go_ret; exact ⟨rfl, Lib.below_freeze (Below.drew (Below.refl B w)) (p := ⟨g, 0, none⟩) hbg _⟩)
end Go.Proofs.YtildonpdmmliaaaGreatDoor.Own

namespace Go.Proofs.YtildonpdmmliaaaGreatDoor.Own
open Go.RowKit
set_option linter.unusedVariables false
set_option linter.unusedSimpArgs false

/-- A builder at the head of block b holds this text. -/
def Bd (T : TypeId) (B b : Nat) (l : List UInt8) (w : World) : Prop := Lib.IsBuilder T 5 B b (Lib.byteCells l) w
theorem Bd.below {T : TypeId} {B b : Nat} {l : List UInt8} {w w' : World} (h : Bd T B b l w) (hb : Below w.heap.size w w') : Bd T B b l w' := isBuilder_keep h hb
theorem Bd.eq {T : TypeId} {B b : Nat} {l l' : List UInt8} {w : World} (h : Bd T B b l w) (e : l = l') : Bd T B b l' w := e ▸ h
theorem Bd.lt {T : TypeId} {B b : Nat} {l : List UInt8} {w : World} (h : Bd T B b l w) : b < w.heap.size := by
  rcases h with h | h
  · exact h.lt
  · exact h.lt
theorem kept_below {T : TypeId} {b : Nat} {w w' : World} (h : Below w.heap.size w w') : Lib.OthersKept T (some b) w w' := fun k o hk _ _ => by
  rw [h.block k (Array.getElem?_eq_some_iff.1 hk).1]; exact hk
theorem Blk.kept {w w' : World} {pb b : Nat} {C : Array Value} {t : TypeId} (h : Blk w pb C t) (k : Lib.OthersKept 5 (some b) w w') (hn : pb ≠ b) (ht : t ≠ 5) : Blk w' pb C t :=
  k pb _ h (fun e => hn (Option.some.inj e)) (fun c fz e => by injection e with _ e2 _; exact ht e2)

set_option maxRecDepth 100000 in
set_option maxHeartbeats 2000000 in
theorem writeG (T : TypeId) (hT : Heads T) (B b : Nat) (l m : List UInt8) (w : World) (h : Bd T B b l w) (hlen : l.length + m.length ≤ 2 ^ 46) (hBw : B ≤ w.heap.size) :
    Calls Tryz.prog 34 #[.pointer (some ⟨b, 0, none⟩), .string (str m)] w fun e w' => e = .returned (.tuple #[.int .i64 m.length, .nilIface]) ∧ Bd T B b (l ++ m) w' ∧ Below B w w' ∧ Lib.OthersKept 5 (some b) w w' := by
  have hml : (str m).size = m.length := str_size m
  refine (writeStringG T hT B b (Lib.byteCells l) (str m) w h (by rw [Lib.byteCells_length, hml]; omega) hBw).mono ?_
  rintro e w' ⟨rfl, d1, b1, k1⟩
  rw [cells_snoc] at d1
  exact ⟨by rw [hml], .inr d1, b1, k1⟩

set_option maxRecDepth 100000 in
set_option maxHeartbeats 2000000 in
theorem implNumber (T : TypeId) (hT : Heads T) (B b : Nat) (l m : List UInt8) (z : Int) (w : World) (h : Bd T B b l w) (hz : Fits z) (hB : ∀ w', Below B w w' → Tab w') (hlen : l.length + m.length ≤ 2 ^ 44) (hBw : B ≤ w.heap.size) :
    Calls Tryz.prog 35 #[.pointer (some ⟨b, 0, none⟩), .string (str m), .int .i64 z] w fun e w' => e = .returned (.tuple #[]) ∧ Bd T B b (l ++ (m ++ Lib.itoa z)) w' ∧ Below B w w' ∧ Lib.OthersKept 5 (some b) w w' := by
  have HB : Hid (∀ w', Below B w w' → Tab w') := hB
  have ZL := itoa_len z hz
  have C1 : Hid _ := writeG T hT B b l m w h (by omega) hBw
  obtain ⟨s, hs⟩ : ∃ s, s = str m := ⟨_, rfl⟩
  rw [← hs] at C1 ⊢
  clear hs
  obtain ⟨t, et⟩ : ∃ t, t = str (Lib.itoa z) := ⟨_, rfl⟩
  have CI : Hid (∀ w', Tab w' → Calls Tryz.prog 55 #[.int .i64 z] w' fun e w'' => e = .returned (.string t) ∧ Below w'.heap.size w' w'') := fun w' ht => by rw [et]; exact itoaC z w' hz ht
  have C2 : Hid (∀ w', Bd T B b (l ++ m) w' → B ≤ w'.heap.size → Calls Tryz.prog 34 #[.pointer (some ⟨b, 0, none⟩), .string t] w' fun e w'' => e = .returned (.tuple #[.int .i64 (Lib.itoa z).length, .nilIface]) ∧ Bd T B b (l ++ (m ++ Lib.itoa z)) w'' ∧ Below B w' w'' ∧ Lib.OthersKept 5 (some b) w' w'') := fun w' h' hb' => by
    have h2 := writeG T hT B b (l ++ m) (Lib.itoa z) w' h' (by rw [List.length_append]; omega) hb'
    rw [← et, List.append_assoc] at h2
    exact h2
  clear et h hB ZL
  go_enter Tryz.func35, Tryz.ntmps35
  go_wp2_with fail
  refine Calls.mono C1.out ?_
  rintro e w1 ⟨rfl, d1, b1, k1⟩
  have D1 : Hid (Bd T B b (l ++ m) w1) := d1
  have B1 : Hid (Below B w w1) := b1
  have K1 : Hid (Lib.OthersKept 5 (some b) w w1) := k1
  have S1 : Hid (B ≤ w1.heap.size) := Nat.le_trans hBw b1.size
  clear d1 b1 k1
  go_wp2_with fail
  go_region_with (first | (go_at_call 55; refine (CI.out _ ?_).mono ?_; exact HB.out _ (Below.drew B1.out); rintro e w2 ⟨rfl, b2⟩; have X2 : Hid (Below w1.heap.size w1 w2) := Below.trans (Below.drew (Below.refl _ _)) b2; have D2 : Hid (Bd T B b (l ++ m) w2) := D1.out.below X2.out; have K2 : Hid (Lib.OthersKept 5 (some b) w w2) := K1.out.trans (kept_below X2.out); have B2 : Hid (Below B w w2) := B1.out.trans (X2.out.mono S1.out); clear b2) | (go_at_call 34; refine (C2.out w2 D2.out (Nat.le_trans hBw B2.out.size)).mono ?_; rintro e w3 ⟨rfl, d3, b3, k3⟩; have D3 : Hid (Bd T B b (l ++ (m ++ Lib.itoa z)) w3) := d3; have B3 : Hid (Below B w w3) := B2.out.trans b3; have K3 : Hid (Lib.OthersKept 5 (some b) w w3) := K2.out.trans k3; clear d3 b3 k3))
  all_goals
    go_wp2
    go_end0
    exact ⟨rfl, D3.out, B3.out, K3.out⟩
end Go.Proofs.YtildonpdmmliaaaGreatDoor.Own

namespace Go.Proofs.YtildonpdmmliaaaGreatDoor.Own
open Go.RowKit
set_option linter.unusedVariables false
set_option linter.unusedSimpArgs false

set_option maxRecDepth 100000 in
set_option maxHeartbeats 4000000 in
theorem implEntryNone (T : TypeId) (hT : Heads T) (B b : Nat) (l : List UInt8) (p q : Int) (a1 a2 : Option Addr) (n1 n2 c1 c2 : Nat) (v k : Int) (w : World) (h : Bd T B b l w) (ll : l.length ≤ 2 ^ 42) (hBw : B ≤ w.heap.size) :
    Calls Tryz.prog 36 #[.pointer (some ⟨b, 0, none⟩), .agg #[.bool true, .int .i64 p, .int .i64 q, .slice a1 n1 c1, .slice a2 n2 c2, .int .i64 v, .int .i64 k]] w fun e w' => e = .returned (.tuple #[]) ∧ Bd T B b (l ++ [110, 111, 110, 101]) w' ∧ Below B w w' ∧ Lib.OthersKept 5 (some b) w w' := by
  obtain ⟨W, hW⟩ : ∃ W, W = w.alloc (.cells #[.bool true, .int .i64 p, .int .i64 q, .slice a1 n1 c1, .slice a2 n2 c2, .int .i64 v, .int .i64 k] 41) := ⟨_, rfl⟩
  have bW : Below w.heap.size w W := by rw [hW]; exact (Below.refl _ _).alloc (Nat.le_refl _) _
  have BW : Hid (Below B w W) := bW.mono hBw
  have C : Hid _ := writeG T hT B b l [110, 111, 110, 101] W (h.below bW) (by simp only [List.length_cons, List.length_nil]; omega) (Nat.le_trans hBw bW.size)
  have K0 : Hid (Lib.OthersKept 5 (some b) w W) := kept_below bW
  have HW : Hid (W = _) := hW
  clear hW bW h
  go_enter Tryz.func36, Tryz.ntmps36
  go_wp2_with fail
  rw [← HW.out]
  refine Calls.mono C.out ?_
  rintro e w1 ⟨rfl, d1, b1, k1⟩
  have D1 : Hid (Bd T B b (l ++ [110, 111, 110, 101]) w1) := d1
  have B1 : Hid (Below B w w1) := BW.out.trans b1
  have K1 : Hid (Lib.OthersKept 5 (some b) w w1) := K0.out.trans k1
  clear d1 b1 k1
  go_wp2
  first | go_end0 | refine bodyPost_ret (results_none rfl _ _ _) rfl ?_
  exact ⟨rfl, D1.out, B1.out, K1.out⟩

set_option maxRecDepth 100000 in
set_option maxHeartbeats 4000000 in
theorem implEntryRun (T : TypeId) (hT : Heads T) (B b : Nat) (l : List UInt8) (p q : Int) (a1 a2 : Option Addr) (c1 c2 : Nat) (xs ys : List P2) (v k : Int) (w : World) (h : Bd T B b l w) (hf : WfE ⟨false, p, q, xs, ys, v, k⟩) (hTab : ∀ w', Below B w w' → Tab w') (hX : ∀ w', Below B w w' → Sl w' a1 xs) (hY : ∀ w', Below B w w' → Sl w' a2 ys) (lx : xs.length ≤ 2 ^ 30) (ly : ys.length ≤ 2 ^ 30) (ll : l.length ≤ 2 ^ 42) (hBw : B ≤ w.heap.size) :
    Calls Tryz.prog 36 #[.pointer (some ⟨b, 0, none⟩), .agg #[.bool false, .int .i64 p, .int .i64 q, .slice a1 xs.length c1, .slice a2 ys.length c2, .int .i64 v, .int .i64 k]] w fun e w' => e = .returned (.tuple #[]) ∧ Bd T B b (l ++ entText ⟨false, p, q, xs, ys, v, k⟩) w' ∧ Below B w w' ∧ Lib.OthersKept 5 (some b) w w' := by
  have HT : Hid (∀ w', Below B w w' → Tab w') := hTab
  have HX : Hid (∀ w', Below B w w' → Sl w' a1 xs) := hX
  have HY : Hid (∀ w', Below B w w' → Sl w' a2 ys) := hY
  obtain ⟨fp, fq, wx, wy, fv, fk⟩ := hf
  have FP : Hid (Fits p) := fp
  have FQ : Hid (Fits q) := fq
  have WX : Hid (WfP xs) := wx
  have WY : Hid (WfP ys) := wy
  have FV : Hid (Fits v) := fv
  have FK : Hid (Fits k) := fk
  have SB : Hid (B ≤ w.heap.size) := hBw
  have HL := head_len p q fp fq
  simp only at fp fq wx wy fv fk
  obtain ⟨L1, hL1⟩ : ∃ L1, L1 = l ++ headText p q := ⟨_, rfl⟩
  have EL1 : Hid (((l ++ ([] ++ Lib.itoa p)) ++ ([46] ++ Lib.itoa q)) ++ [123] = L1) := by show _ = _; rw [hL1]; simp [headText]
  have l1 : L1.length ≤ 2 ^ 42 + 44 := by rw [hL1, List.length_append]; omega
  obtain ⟨L2, hL2⟩ : ∃ L2, L2 = pairsTo 63 47 L1 xs xs.length := ⟨_, rfl⟩
  have M1 : Hid (∀ j, j ≤ xs.length → (pairsTo 63 47 L1 xs j).length ≤ 2 ^ 43) := fun j hj => by have := pairsTo_len 63 47 L1 xs wx j hj; omega
  have l2 : L2.length ≤ 2 ^ 42 + 44 + 44 * 2 ^ 30 := by rw [hL2]; have := pairsTo_len 63 47 L1 xs wx _ (Nat.le_refl _); omega
  have M2 : Hid (∀ j, j ≤ ys.length → (pairsTo 33 61 L2 ys j).length ≤ 2 ^ 43) := fun j hj => by have := pairsTo_len 33 61 L2 ys wy j hj; omega
  have EF : Hid ((pairsTo 33 61 L2 ys ys.length ++ ([125] ++ Lib.itoa v)) ++ ([58] ++ Lib.itoa k) = l ++ entText ⟨false, p, q, xs, ys, v, k⟩) := by
    show _ = _
    rw [← entText_behind l ⟨false, p, q, xs, ys, v, k⟩ rfl, hL2, hL1]
    simp
  have EL2 : Hid (pairsTo 63 47 L1 xs xs.length = L2) := hL2.symm
  generalize l ++ entText ⟨false, p, q, xs, ys, v, k⟩ = FIN at EF ⊢
  have CN : Hid (∀ (l' m : List UInt8) (z : Int) (w' : World), Fits z → Bd T B b l' w' → Below B w w' → l'.length + m.length ≤ 2 ^ 44 → Calls Tryz.prog 35 #[.pointer (some ⟨b, 0, none⟩), .string (str m), .int .i64 z] w' fun e w'' => e = .returned (.tuple #[]) ∧ Bd T B b (l' ++ (m ++ Lib.itoa z)) w'' ∧ Below B w' w'' ∧ Lib.OthersKept 5 (some b) w' w'') :=
    fun l' m z w' hz hd hb hlen => implNumber T hT B b l' m z w' hd hz (fun w'' hw => HT.out w'' (hb.trans hw)) hlen (Nat.le_trans hBw hb.size)
  have CW : Hid (∀ (l' m : List UInt8) (w' : World), Bd T B b l' w' → Below B w w' → l'.length + m.length ≤ 2 ^ 46 → Calls Tryz.prog 34 #[.pointer (some ⟨b, 0, none⟩), .string (str m)] w' fun e w'' => e = .returned (.tuple #[.int .i64 m.length, .nilIface]) ∧ Bd T B b (l' ++ m) w'' ∧ Below B w' w'' ∧ Lib.OthersKept 5 (some b) w' w'') :=
    fun l' m w' hd hb hlen => writeG T hT B b l' m w' hd hlen (Nat.le_trans hBw hb.size)
  have hblt := h.lt
  have NEE : Hid (w.heap.size ≠ b) := by show _ ≠ _; omega
  obtain ⟨W, hW⟩ : ∃ W, W = w.alloc (.cells #[.bool false, .int .i64 p, .int .i64 q, .slice a1 xs.length c1, .slice a2 ys.length c2, .int .i64 v, .int .i64 k] 41) := ⟨_, rfl⟩
  have bW : Below w.heap.size w W := by rw [hW]; exact (Below.refl _ _).alloc (Nat.le_refl _) _
  have B0 : Hid (Below B w W) := bW.mono hBw
  have E0 : Hid (Blk W w.heap.size #[.bool false, .int .i64 p, .int .i64 q, .slice a1 xs.length c1, .slice a2 ys.length c2, .int .i64 v, .int .i64 k] 41) := by show Blk _ _ _ _; rw [hW]; exact Blk.new _ _ _
  have D0 : Hid (Bd T B b l W) := h.below bW
  have K0 : Hid (Lib.OthersKept 5 (some b) w W) := kept_below bW
  have ip := itoa_len p fp
  have iq := itoa_len q fq
  have LB0 : Hid (l.length + ([] : List UInt8).length ≤ 2 ^ 44) := by show _ ≤ _; simp only [List.length_nil]; omega
  have LB1 : Hid ((l ++ ([] ++ Lib.itoa p)).length + ([46] : List UInt8).length ≤ 2 ^ 44) := by show _ ≤ _; simp only [List.length_append, List.length_nil, List.length_cons]; omega
  have LB2 : Hid (((l ++ ([] ++ Lib.itoa p)) ++ ([46] ++ Lib.itoa q)).length + ([123] : List UInt8).length ≤ 2 ^ 46) := by show _ ≤ _; simp only [List.length_append, List.length_nil, List.length_cons]; omega
  have iv := itoa_len v fv
  have LB5 : Hid ((pairsTo 33 61 L2 ys ys.length).length + ([125] : List UInt8).length ≤ 2 ^ 44) := by show _ ≤ _; have := M2.out ys.length (Nat.le_refl _); simp only [List.length_cons, List.length_nil]; omega
  have LB6 : Hid ((pairsTo 33 61 L2 ys ys.length ++ ([125] ++ Lib.itoa v)).length + ([58] : List UInt8).length ≤ 2 ^ 44) := by show _ ≤ _; have := M2.out ys.length (Nat.le_refl _); simp only [List.length_append, List.length_cons, List.length_nil]; omega
  have HW : Hid (W = _) := hW
  clear hW bW h hTab hX hY hT fp fq wx wy fv fk hL1 hL2 l1 l2 HL ll hblt ip iq iv hBw
  have BW := B0.out
  obtain ⟨q0, q1, q2, q3, q4, q5, q6⟩ := E0.out.cells7
  clear BW
  go_enter Tryz.func36, Tryz.ntmps36
  go_upto_region 3 with fail
  rw [← HW.out]
  go_region_with (go_at_call 35; refine (CN.out (l) [] p _ FP.out ?_ ?_ ?_).mono ?_; exact Bd.below D0.out (Below.drew (Below.refl _ _)); exact Below.drew B0.out; exact LB0.out; rintro e w1 ⟨rfl, d', b', k'⟩; have D1 : Hid (Bd T B b ((l) ++ ([] ++ Lib.itoa p)) w1) := d'; have B1 : Hid (Below B w w1) := (Below.drew B0.out).trans b'; have K1 : Hid (Lib.OthersKept 5 (some b) w w1) := (Lib.OthersKept.drew K0.out).trans k'; have E1 : Hid (Blk w1 w.heap.size _ _) := E0.out.kept k' NEE.out (by decide); clear d' b' k')
  clear q0 q1 q2 q3 q4 q5 q6
  obtain ⟨q0, q1, q2, q3, q4, q5, q6⟩ := E1.out.cells7
  go_upto_region 4 with fail
  go_region_with (go_at_call 35; refine (CN.out (l ++ ([] ++ Lib.itoa p)) [46] q _ FQ.out ?_ ?_ ?_).mono ?_; exact Bd.below D1.out (Below.drew (Below.refl _ _)); exact Below.drew B1.out; exact LB1.out; rintro e w2 ⟨rfl, d', b', k'⟩; have D2 : Hid (Bd T B b ((l ++ ([] ++ Lib.itoa p)) ++ ([46] ++ Lib.itoa q)) w2) := d'; have B2 : Hid (Below B w w2) := (Below.drew B1.out).trans b'; have K2 : Hid (Lib.OthersKept 5 (some b) w w2) := (Lib.OthersKept.drew K1.out).trans k'; have E2 : Hid (Blk w2 w.heap.size _ _) := E1.out.kept k' NEE.out (by decide); clear d' b' k')
  clear q0 q1 q2 q3 q4 q5 q6
  obtain ⟨q0, q1, q2, q3, q4, q5, q6⟩ := E2.out.cells7
  go_wp2_with fail
  refine (CW.out _ [123] w2 D2.out B2.out LB2.out).mono ?_
  rintro e w3 ⟨rfl, d', b', k'⟩
  rw [EL1.out] at d'
  have D3 : Hid (Bd T B b L1 w3) := d'
  have B3 : Hid (Below B w w3) := B2.out.trans b'
  have K3 : Hid (Lib.OthersKept 5 (some b) w w3) := K2.out.trans k'
  have E3 : Hid (Blk w3 w.heap.size #[.bool false, .int .i64 p, .int .i64 q, .slice a1 xs.length c1, .slice a2 ys.length c2, .int .i64 v, .int .i64 k] 41) := E2.out.kept k' NEE.out (by decide)
  clear d' b' k' q0 q1 q2 q3 q4 q5 q6 D0 D1 D2 B0 B1 B2 E0 E1 E2 K0 K1 K2 LB0 LB1 LB2
  obtain ⟨q0, q1, q2, q3, q4, q5, q6⟩ := E3.out.cells7
  go_wp2_with fail
  clear q0 q1 q2 q3 q4 q5 q6
  go_loopw [38] (fun i wr => ∃ j : Nat, j ≤ xs.length ∧ i = .int .i64 j ∧ Hid (Bd T B b (pairsTo 63 47 L1 xs j) wr) ∧ Hid (Below B w wr) ∧ Hid (Blk wr w.heap.size #[.bool false, .int .i64 p, .int .i64 q, .slice a1 xs.length c1, .slice a2 ys.length c2, .int .i64 v, .int .i64 k] 41) ∧ Hid (Lib.OthersKept 5 (some b) w wr)) (fun i _ => xs.length - (intOf i).toNat)
  case atStart => exact ⟨0, Nat.zero_le _, rfl, D3.out, B3.out, E3.out, K3.out⟩
  case round =>
    obtain ⟨j, hj, rfl, DR, BR, ER, KR⟩ := hrel
    by_cases hlt : j < xs.length
    · have hji : (j : Int) < (xs.length : Int) := by omega
      rcases HX.out wr BR.out with hh | ⟨b1, o1, rfl, hb1, hh⟩
      · rw [hh] at hlt; simp at hlt
      obtain ⟨d0, d1⟩ := hh j hlt
      have FX := WX.out j hlt
      have NX : Hid ((pairsTo 63 47 L1 xs j ++ ([63] ++ Lib.itoa (xs.getD j (0, 0)).1)) ++ ([47] ++ Lib.itoa (xs.getD j (0, 0)).2) = pairsTo 63 47 L1 xs (j + 1)) := by show _ = _; simp [pairsTo, pairText]
      have LB0 : Hid ((pairsTo 63 47 L1 xs j).length + ([63] : List UInt8).length ≤ 2 ^ 44) := by show _ ≤ _; have := M1.out j (by omega); simp only [List.length_cons, List.length_nil]; omega
      clear hh
      generalize xs.getD j (0, 0) = pr at d0 d1 FX NX
      obtain ⟨p1, p2⟩ := pr
      simp only at d0 d1 FX NX
      have ip := itoa_len p1 FX.1
      have F1 : Hid (Fits p1) := FX.1
      have F2 : Hid (Fits p2) := FX.2
      have LB1 : Hid ((pairsTo 63 47 L1 xs j ++ ([63] ++ Lib.itoa p1)).length + ([47] : List UInt8).length ≤ 2 ^ 44) := by show _ ≤ _; have := M1.out j (by omega); simp only [List.length_append, List.length_cons, List.length_nil]; omega
      clear ip FX
      have hblt := DR.out.lt
      obtain ⟨X, hX⟩ : ∃ X, X = wr.alloc (.cells #[.int .i64 p1, .int .i64 p2] 81) := ⟨_, rfl⟩
      have bX : Below wr.heap.size wr X := by rw [hX]; exact (Below.refl _ _).alloc (Nat.le_refl _) _
      have B0 : Hid (Below B w X) := BR.out.trans (bX.mono (Nat.le_trans SB.out BR.out.size))
      have D0 : Hid (Bd T B b (pairsTo 63 47 L1 xs j) X) := DR.out.below bX
      have E0 : Hid (Blk X w.heap.size _ _) := ER.out.keep bX
      have K0 : Hid (Lib.OthersKept 5 (some b) w X) := KR.out.trans (kept_below bX)
      have R0 : Hid (Blk X wr.heap.size #[.int .i64 p1, .int .i64 p2] 81) := by show Blk _ _ _ _; rw [hX]; exact Blk.new _ _ _
      have NER : Hid (wr.heap.size ≠ b) := by show _ ≠ _; omega
      have HX2 : Hid (X = _) := hX
      clear hX bX hblt
      go_upto_region 9 with fail
      rw [← HX2.out]
      clear d0 d1
      obtain ⟨s0, s1⟩ := R0.out.cells2
      go_region_with (go_at_call 35; refine (CN.out (pairsTo 63 47 L1 xs j) [63] p1 _ F1.out ?_ ?_ ?_).mono ?_; exact Bd.below D0.out (Below.drew (Below.refl _ _)); exact Below.drew B0.out; exact LB0.out; rintro e w1 ⟨rfl, d', b', k'⟩; have D1 : Hid (Bd T B b ((pairsTo 63 47 L1 xs j) ++ ([63] ++ Lib.itoa p1)) w1) := d'; have B1 : Hid (Below B w w1) := (Below.drew B0.out).trans b'; have K1 : Hid (Lib.OthersKept 5 (some b) w w1) := (Lib.OthersKept.drew K0.out).trans k'; have E1 : Hid (Blk w1 w.heap.size _ _) := E0.out.kept k' NEE.out (by decide); have R1 : Hid (Blk w1 wr.heap.size #[.int .i64 p1, .int .i64 p2] 81) := R0.out.kept k' NER.out (by decide); clear d' b' k')
      clear s0 s1
      obtain ⟨s0, s1⟩ := R1.out.cells2
      go_upto_region 10 with fail
      go_region_with (go_at_call 35; refine (CN.out (pairsTo 63 47 L1 xs j ++ ([63] ++ Lib.itoa p1)) [47] p2 _ F2.out ?_ ?_ ?_).mono ?_; exact Bd.below D1.out (Below.drew (Below.refl _ _)); exact Below.drew B1.out; exact LB1.out; rintro e w2 ⟨rfl, d', b', k'⟩; have D2 : Hid (Bd T B b ((pairsTo 63 47 L1 xs j ++ ([63] ++ Lib.itoa p1)) ++ ([47] ++ Lib.itoa p2)) w2) := d'; have B2 : Hid (Below B w w2) := (Below.drew B1.out).trans b'; have K2 : Hid (Lib.OthersKept 5 (some b) w w2) := (Lib.OthersKept.drew K1.out).trans k'; have E2 : Hid (Blk w2 w.heap.size _ _) := E1.out.kept k' NEE.out (by decide); clear d' b' k')
      go_wp2_with fail
      go_roundw
      case rel => exact ⟨j + 1, by omega, by go_num, by show Bd _ _ _ _ _; rw [← NX.out]; exact D2.out, B2.out, E2.out, K2.out⟩
      case measure => simp [intOf]; omega
    · have hji : ¬ (j : Int) < (xs.length : Int) := by omega
      obtain rfl : j = xs.length := by omega
      rw [EL2.out] at DR
      obtain ⟨q0, q1, q2, q3, q4, q5, q6⟩ := ER.out.cells7
      go_wp2_with fail
      clear q0 q1 q2 q3 q4 q5 q6
      go_loopw [59] (fun i wr => ∃ j : Nat, j ≤ ys.length ∧ i = .int .i64 j ∧ Hid (Bd T B b (pairsTo 33 61 L2 ys j) wr) ∧ Hid (Below B w wr) ∧ Hid (Blk wr w.heap.size #[.bool false, .int .i64 p, .int .i64 q, .slice a1 xs.length c1, .slice a2 ys.length c2, .int .i64 v, .int .i64 k] 41) ∧ Hid (Lib.OthersKept 5 (some b) w wr)) (fun i _ => ys.length - (intOf i).toNat)
      case atStart => exact ⟨0, Nat.zero_le _, rfl, DR.out, BR.out, ER.out, KR.out⟩
      case round =>
        obtain ⟨j, hj, rfl, DR, BR, ER, KR⟩ := hrel
        by_cases hlt : j < ys.length
        · have hji : (j : Int) < (ys.length : Int) := by omega
          rcases HY.out wr BR.out with hh | ⟨b1, o1, rfl, hb1, hh⟩
          · rw [hh] at hlt; simp at hlt
          obtain ⟨d0, d1⟩ := hh j hlt
          have FX := WY.out j hlt
          have NX : Hid ((pairsTo 33 61 L2 ys j ++ ([33] ++ Lib.itoa (ys.getD j (0, 0)).1)) ++ ([61] ++ Lib.itoa (ys.getD j (0, 0)).2) = pairsTo 33 61 L2 ys (j + 1)) := by show _ = _; simp [pairsTo, pairText]
          have LB0 : Hid ((pairsTo 33 61 L2 ys j).length + ([33] : List UInt8).length ≤ 2 ^ 44) := by show _ ≤ _; have := M2.out j (by omega); simp only [List.length_cons, List.length_nil]; omega
          clear hh
          generalize ys.getD j (0, 0) = pr at d0 d1 FX NX
          obtain ⟨p1, p2⟩ := pr
          simp only at d0 d1 FX NX
          have ip := itoa_len p1 FX.1
          have F1 : Hid (Fits p1) := FX.1
          have F2 : Hid (Fits p2) := FX.2
          have LB1 : Hid ((pairsTo 33 61 L2 ys j ++ ([33] ++ Lib.itoa p1)).length + ([61] : List UInt8).length ≤ 2 ^ 44) := by show _ ≤ _; have := M2.out j (by omega); simp only [List.length_append, List.length_cons, List.length_nil]; omega
          clear ip FX
          have hblt := DR.out.lt
          obtain ⟨X, hX⟩ : ∃ X, X = wr.alloc (.cells #[.int .i64 p1, .int .i64 p2] 83) := ⟨_, rfl⟩
          have bX : Below wr.heap.size wr X := by rw [hX]; exact (Below.refl _ _).alloc (Nat.le_refl _) _
          have B0 : Hid (Below B w X) := BR.out.trans (bX.mono (Nat.le_trans SB.out BR.out.size))
          have D0 : Hid (Bd T B b (pairsTo 33 61 L2 ys j) X) := DR.out.below bX
          have E0 : Hid (Blk X w.heap.size _ _) := ER.out.keep bX
          have K0 : Hid (Lib.OthersKept 5 (some b) w X) := KR.out.trans (kept_below bX)
          have R0 : Hid (Blk X wr.heap.size #[.int .i64 p1, .int .i64 p2] 83) := by show Blk _ _ _ _; rw [hX]; exact Blk.new _ _ _
          have NER : Hid (wr.heap.size ≠ b) := by show _ ≠ _; omega
          have HX2 : Hid (X = _) := hX
          clear hX bX hblt
          go_upto_region 15 with fail
          rw [← HX2.out]
          clear d0 d1
          obtain ⟨s0, s1⟩ := R0.out.cells2
          go_region_with (go_at_call 35; refine (CN.out (pairsTo 33 61 L2 ys j) [33] p1 _ F1.out ?_ ?_ ?_).mono ?_; exact Bd.below D0.out (Below.drew (Below.refl _ _)); exact Below.drew B0.out; exact LB0.out; rintro e w1 ⟨rfl, d', b', k'⟩; have D1 : Hid (Bd T B b ((pairsTo 33 61 L2 ys j) ++ ([33] ++ Lib.itoa p1)) w1) := d'; have B1 : Hid (Below B w w1) := (Below.drew B0.out).trans b'; have K1 : Hid (Lib.OthersKept 5 (some b) w w1) := (Lib.OthersKept.drew K0.out).trans k'; have E1 : Hid (Blk w1 w.heap.size _ _) := E0.out.kept k' NEE.out (by decide); have R1 : Hid (Blk w1 wr.heap.size #[.int .i64 p1, .int .i64 p2] 83) := R0.out.kept k' NER.out (by decide); clear d' b' k')
          clear s0 s1
          obtain ⟨s0, s1⟩ := R1.out.cells2
          go_upto_region 16 with fail
          go_region_with (go_at_call 35; refine (CN.out (pairsTo 33 61 L2 ys j ++ ([33] ++ Lib.itoa p1)) [61] p2 _ F2.out ?_ ?_ ?_).mono ?_; exact Bd.below D1.out (Below.drew (Below.refl _ _)); exact Below.drew B1.out; exact LB1.out; rintro e w2 ⟨rfl, d', b', k'⟩; have D2 : Hid (Bd T B b ((pairsTo 33 61 L2 ys j ++ ([33] ++ Lib.itoa p1)) ++ ([61] ++ Lib.itoa p2)) w2) := d'; have B2 : Hid (Below B w w2) := (Below.drew B1.out).trans b'; have K2 : Hid (Lib.OthersKept 5 (some b) w w2) := (Lib.OthersKept.drew K1.out).trans k'; have E2 : Hid (Blk w2 w.heap.size _ _) := E1.out.kept k' NEE.out (by decide); clear d' b' k')
          go_wp2_with fail
          go_roundw
          case rel => exact ⟨j + 1, by omega, by go_num, by show Bd _ _ _ _ _; rw [← NX.out]; exact D2.out, B2.out, E2.out, K2.out⟩
          case measure => simp [intOf]; omega
        · have hji : ¬ (j : Int) < (ys.length : Int) := by omega
          obtain rfl : j = ys.length := by omega
          have D5 : Hid (Bd T B b (pairsTo 33 61 L2 ys ys.length) wr) := DR.out
          have B5 : Hid (Below B w wr) := BR.out
          have E5 : Hid (Blk wr w.heap.size _ _) := ER.out
          have K5 : Hid (Lib.OthersKept 5 (some b) w wr) := KR.out
          obtain ⟨q0, q1, q2, q3, q4, q5, q6⟩ := ER.out.cells7
          go_upto_region 18 with fail
          go_region_with (go_at_call 35; refine (CN.out (pairsTo 33 61 L2 ys ys.length) [125] v _ FV.out ?_ ?_ ?_).mono ?_; exact Bd.below D5.out (Below.drew (Below.refl _ _)); exact Below.drew B5.out; exact LB5.out; rintro e w6 ⟨rfl, d', b', k'⟩; have D6 : Hid (Bd T B b ((pairsTo 33 61 L2 ys ys.length) ++ ([125] ++ Lib.itoa v)) w6) := d'; have B6 : Hid (Below B w w6) := (Below.drew B5.out).trans b'; have K6 : Hid (Lib.OthersKept 5 (some b) w w6) := (Lib.OthersKept.drew K5.out).trans k'; have E6 : Hid (Blk w6 w.heap.size _ _) := E5.out.kept k' NEE.out (by decide); clear d' b' k')
          clear q0 q1 q2 q3 q4 q5 q6
          obtain ⟨q0, q1, q2, q3, q4, q5, q6⟩ := E6.out.cells7
          go_upto_region 19 with fail
          go_region_with (go_at_call 35; refine (CN.out (pairsTo 33 61 L2 ys ys.length ++ ([125] ++ Lib.itoa v)) [58] k _ FK.out ?_ ?_ ?_).mono ?_; exact Bd.below D6.out (Below.drew (Below.refl _ _)); exact Below.drew B6.out; exact LB6.out; rintro e w7 ⟨rfl, d', b', k'⟩; have D7 : Hid (Bd T B b ((pairsTo 33 61 L2 ys ys.length ++ ([125] ++ Lib.itoa v)) ++ ([58] ++ Lib.itoa k)) w7) := d'; have B7 : Hid (Below B w w7) := (Below.drew B6.out).trans b'; have K7 : Hid (Lib.OthersKept 5 (some b) w w7) := (Lib.OthersKept.drew K6.out).trans k'; clear d' b' k')
          go_wp2
          go_end0
          exact ⟨rfl, by rw [← EF.out]; exact D7.out, B7.out, K7.out⟩
end Go.Proofs.YtildonpdmmliaaaGreatDoor.Own

namespace Go.Proofs.YtildonpdmmliaaaGreatDoor.Own
open Go.RowKit
set_option linter.unusedVariables false
set_option linter.unusedSimpArgs false

theorem headsMsg : Heads 68 := ⟨by kernel_rfl, by decide⟩

theorem implEntryA (T : TypeId) (hT : Heads T) (B b : Nat) (l : List UInt8) (n : Bool) (p q : Int) (a1 a2 : Option Addr) (c1 c2 : Nat) (xs ys : List P2) (v k : Int) (w : World) (h : Bd T B b l w) (hf : WfE ⟨n, p, q, xs, ys, v, k⟩) (hTab : ∀ w', Below B w w' → Tab w') (hX : ∀ w', Below B w w' → Sl w' a1 xs) (hY : ∀ w', Below B w w' → Sl w' a2 ys) (lx : xs.length ≤ 2 ^ 30) (ly : ys.length ≤ 2 ^ 30) (ll : l.length ≤ 2 ^ 42) (hBw : B ≤ w.heap.size) :
    Calls Tryz.prog 36 #[.pointer (some ⟨b, 0, none⟩), .agg #[.bool n, .int .i64 p, .int .i64 q, .slice a1 xs.length c1, .slice a2 ys.length c2, .int .i64 v, .int .i64 k]] w fun e w' => e = .returned (.tuple #[]) ∧ Bd T B b (l ++ entText ⟨n, p, q, xs, ys, v, k⟩) w' ∧ Below B w w' ∧ Lib.OthersKept 5 (some b) w w' := by
  cases n with
  | true => exact implEntryNone T hT B b l p q a1 a2 xs.length ys.length c1 c2 v k w h ll hBw
  | false => exact implEntryRun T hT B b l p q a1 a2 c1 c2 xs ys v k w h hf hTab hX hY lx ly ll hBw

set_option maxRecDepth 100000 in
set_option maxHeartbeats 4000000 in
theorem implWriteVote (T : TypeId) (hT : Heads T) (B b : Nat) (l : List UInt8) (m : Int) (n : Bool) (p q : Int) (a1 a2 : Option Addr) (c1 c2 : Nat) (xs ys : List P2) (v k : Int) (w : World) (h : Bd T B b l w) (fm : Fits m) (hf : WfE ⟨n, p, q, xs, ys, v, k⟩) (hTab : ∀ w', Below B w w' → Tab w') (hX : ∀ w', Below B w w' → Sl w' a1 xs) (hY : ∀ w', Below B w w' → Sl w' a2 ys) (lx : xs.length ≤ 2 ^ 30) (ly : ys.length ≤ 2 ^ 30) (ll : l.length ≤ 2 ^ 41) (hBw : B ≤ w.heap.size) :
    Calls Tryz.prog 37 #[.pointer (some ⟨b, 0, none⟩), .agg #[.int .i64 m, .bool n, .int .i64 p, .int .i64 q, .slice a1 xs.length c1, .slice a2 ys.length c2, .int .i64 v, .int .i64 k]] w fun e w' => e = .returned (.tuple #[]) ∧ Bd T B b (l ++ voteText (m, ⟨n, p, q, xs, ys, v, k⟩)) w' ∧ Below B w w' ∧ Lib.OthersKept 5 (some b) w w' := by
  have CN : Hid (∀ (l' m : List UInt8) (z : Int) (w' : World), Fits z → Bd T B b l' w' → Below B w w' → l'.length + m.length ≤ 2 ^ 44 → Calls Tryz.prog 35 #[.pointer (some ⟨b, 0, none⟩), .string (str m), .int .i64 z] w' fun e w'' => e = .returned (.tuple #[]) ∧ Bd T B b (l' ++ (m ++ Lib.itoa z)) w'' ∧ Below B w' w'' ∧ Lib.OthersKept 5 (some b) w' w'') :=
    fun l' m z w' hz hd hb hlen => implNumber T hT B b l' m z w' hd hz (fun w'' hw => hTab w'' (hb.trans hw)) hlen (Nat.le_trans hBw hb.size)
  have CE : Hid (∀ (l' : List UInt8) (w' : World), Bd T B b l' w' → Below B w w' → l'.length ≤ 2 ^ 42 → Calls Tryz.prog 36 #[.pointer (some ⟨b, 0, none⟩), .agg #[.bool n, .int .i64 p, .int .i64 q, .slice a1 xs.length c1, .slice a2 ys.length c2, .int .i64 v, .int .i64 k]] w' fun e w'' => e = .returned (.tuple #[]) ∧ Bd T B b (l' ++ entText ⟨n, p, q, xs, ys, v, k⟩) w'' ∧ Below B w' w'' ∧ Lib.OthersKept 5 (some b) w' w'') :=
    fun l' w' hd hb hlen => implEntryA T hT B b l' n p q a1 a2 c1 c2 xs ys v k w' hd hf (fun w'' hw => hTab w'' (hb.trans hw)) (fun w'' hw => hX w'' (hb.trans hw)) (fun w'' hw => hY w'' (hb.trans hw)) lx ly hlen (Nat.le_trans hBw hb.size)
  have FM : Hid (Fits m) := fm
  have im := itoa_len m fm
  have hblt := h.lt
  have NEE : Hid (w.heap.size ≠ b) := by show _ ≠ _; omega
  have EV0 : Hid (m = 0 → l ++ ([32] ++ Lib.itoa m) = l ++ voteText (m, ⟨n, p, q, xs, ys, v, k⟩)) := fun h0 => by simp [voteText, numText, h0]
  have EV1 : Hid (m ≠ 0 → (l ++ ([32] ++ Lib.itoa m)) ++ entText ⟨n, p, q, xs, ys, v, k⟩ = l ++ voteText (m, ⟨n, p, q, xs, ys, v, k⟩)) := fun h0 => by simp [voteText, numText, h0]
  generalize l ++ voteText (m, ⟨n, p, q, xs, ys, v, k⟩) = FIN at EV0 EV1 ⊢
  generalize entText ⟨n, p, q, xs, ys, v, k⟩ = et at CE EV1
  obtain ⟨W, hW⟩ : ∃ W, W = w.alloc (.cells #[.int .i64 m, .bool n, .int .i64 p, .int .i64 q, .slice a1 xs.length c1, .slice a2 ys.length c2, .int .i64 v, .int .i64 k] 56) := ⟨_, rfl⟩
  have bW : Below w.heap.size w W := by rw [hW]; exact (Below.refl _ _).alloc (Nat.le_refl _) _
  have B0 : Hid (Below B w W) := bW.mono hBw
  have E0 : Hid (Blk W w.heap.size #[.int .i64 m, .bool n, .int .i64 p, .int .i64 q, .slice a1 xs.length c1, .slice a2 ys.length c2, .int .i64 v, .int .i64 k] 56) := by show Blk _ _ _ _; rw [hW]; exact Blk.new _ _ _
  have D0 : Hid (Bd T B b l W) := h.below bW
  have K0 : Hid (Lib.OthersKept 5 (some b) w W) := kept_below bW
  have LB0 : Hid (l.length + ([32] : List UInt8).length ≤ 2 ^ 44) := by show _ ≤ _; simp only [List.length_nil, List.length_cons]; omega
  have LB1 : Hid ((l ++ ([32] ++ Lib.itoa m)).length ≤ 2 ^ 42) := by show _ ≤ _; simp only [List.length_append, List.length_nil, List.length_cons]; omega
  have HW : Hid (W = _) := hW
  clear hW bW h hTab hX hY hT fm hf lx ly ll hblt im hBw
  obtain ⟨q0, q1, q2, q3, q4, q5, q6, q7⟩ := E0.out.cells8
  go_enter Tryz.func37, Tryz.ntmps37
  go_upto_region 1 with fail
  rw [← HW.out]
  go_region_with (go_at_call 35; refine (CN.out (l) [32] m _ FM.out ?_ ?_ ?_).mono ?_; exact Bd.below D0.out (Below.drew (Below.refl _ _)); exact Below.drew B0.out; exact LB0.out; rintro e w1 ⟨rfl, d', b', k'⟩; have D1 : Hid (Bd T B b ((l) ++ ([32] ++ Lib.itoa m)) w1) := d'; have B1 : Hid (Below B w w1) := (Below.drew B0.out).trans b'; have K1 : Hid (Lib.OthersKept 5 (some b) w w1) := (Lib.OthersKept.drew K0.out).trans k'; have E1 : Hid (Blk w1 _ _ _) := E0.out.kept k' NEE.out (by decide); clear d' b' k')
  clear q0 q1 q2 q3 q4 q5 q6 q7
  obtain ⟨q0, q1, q2, q3, q4, q5, q6, q7⟩ := E1.out.cells8
  by_cases hm : m = 0
  · have X : Hid (l ++ ([32] ++ Lib.itoa m) = FIN) := EV0.out hm
    have hmn : (m != 0) = false := by simp [hm]
    clear hm EV0 EV1
    go_wp2_with fail
    first | go_end0 | refine bodyPost_ret (results_none rfl _ _ _) rfl ?_
    exact ⟨rfl, by rw [← X.out]; exact D1.out, B1.out, K1.out⟩
  · have X : Hid ((l ++ ([32] ++ Lib.itoa m)) ++ et = FIN) := EV1.out hm
    have hmn : (m != 0) = true := by simpa using hm
    clear hm EV0 EV1
    go_upto_region 3 with fail
    go_region_with (go_at_call 36; refine (CE.out (l ++ ([32] ++ Lib.itoa m)) _ ?_ ?_ ?_).mono ?_; exact Bd.below D1.out (Below.drew (Below.refl _ _)); exact Below.drew B1.out; exact LB1.out; rintro e w2 ⟨rfl, d', b', k'⟩; have D2 : Hid (Bd T B b ((l ++ ([32] ++ Lib.itoa m)) ++ et) w2) := d'; have B2 : Hid (Below B w w2) := (Below.drew B1.out).trans b'; have K2 : Hid (Lib.OthersKept 5 (some b) w w2) := (Lib.OthersKept.drew K1.out).trans k'; clear d' b' k')
    go_wp2_with fail
    first | go_end0 | refine bodyPost_ret (results_none rfl _ _ _) rfl ?_
    exact ⟨rfl, by rw [← X.out]; exact D2.out, B2.out, K2.out⟩

theorem ent_nil3 (w : World) : (binOp .neq 77 (.func (.func 49) #[] #[]) .nilFunc).run Tryz.prog w = .ok (.bool true) w := by kernel_rfl
theorem ent_nil7 (w : World) : (binOp .neq 77 (.func (.func 50) #[] #[]) .nilFunc).run Tryz.prog w = .ok (.bool true) w := by kernel_rfl
theorem ent_nil0 (w : World) : (binOp .neq 77 .nilFunc .nilFunc).run Tryz.prog w = .ok (.bool false) w := by kernel_rfl
theorem ent_nil (kind : Int) (w : World) : (binOp .neq 77 (entFn kind) .nilFunc).run Tryz.prog w = .ok (.bool (hasEnt kind)) w := by
  by_cases k3 : kind = 3 ∨ kind = 5
  · have e1 : entFn kind = .func (.func 49) #[] #[] := by simp only [entFn, k3, if_true]
    have e2 : hasEnt kind = true := hasEnt_iff.2 (by omega)
    rw [e1, e2]; exact ent_nil3 w
  · by_cases k7 : kind = 7
    · have e1 : entFn kind = .func (.func 50) #[] #[] := by rw [k7]; rfl
      have e2 : hasEnt kind = true := hasEnt_iff.2 (by omega)
      rw [e1, e2]; exact ent_nil7 w
    · have e1 : entFn kind = .nilFunc := by simp only [entFn, k3, k7, if_false]
      have e2 : hasEnt kind = false := by
        rw [← Bool.not_eq_true, hasEnt_iff]; omega
      rw [e1, e2]; exact ent_nil0 w
end Go.Proofs.YtildonpdmmliaaaGreatDoor.Own
