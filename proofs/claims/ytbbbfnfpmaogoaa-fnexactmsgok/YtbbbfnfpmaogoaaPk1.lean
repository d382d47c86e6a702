/-
  Own texts, bundled: Base, Mem, ToR, ToP.
-/
import Derived.Test.YtbbbfnfpmaogoaaRows
import Derived.WalkKit
import Derived.WalkSpells
import Derived.WalkLawsBesides
import Derived.Outline
import Derived.Deep.RegionWith
import Derived.Deep.LoopGhost
import Derived.Laws.CopyOwn
namespace Go.Proofs.Ytbbbfnfpmaogoaa.Own
open Go.RowKit

theorem ret_bool {a b : Bool} (h : a = b) : Ending.returned (.bool a) = .returned (.bool b) := by rw [h]
theorem ret_int {k : IntKind} {a b : Int} (h : a = b) : Ending.returned (.int k a) = .returned (.int k b) := by rw [h]

theorem heap_new (w : World) (o : Obj) : (w.alloc o).heap[w.heap.size]? = some o := by
  show (w.heap.push o)[w.heap.size]? = _
  simp
theorem size_new (w : World) (o : Obj) : (w.alloc o).heap.size = w.heap.size + 1 := by
  show (w.heap.push o).size = _
  simp
theorem heap_old (w : World) (o : Obj) (k : Nat) (h : k < w.heap.size) : (w.alloc o).heap[k]? = w.heap[k]? := Below.heap_alloc w o k h
theorem heap_new2 (w : World) (o o' : Obj) : ((w.alloc o).alloc o').heap[w.heap.size + 1]? = some o' := by
  have := heap_new (w.alloc o) o'
  rwa [size_new] at this
theorem heap_new1 (w : World) (o o' : Obj) : ((w.alloc o).alloc o').heap[w.heap.size]? = some o := by
  rw [heap_old _ _ _ (by rw [size_new]; omega)]; exact heap_new w o
theorem cell_heap {w : World} {b : Nat} {c : Array Value} {t : TypeId} {f : Nat × Nat} (h : w.heap[b]? = some (.cells c t f)) (o : Nat) : w.cell? ⟨b, o, none⟩ = c[o]? := by
  simp [World.cell?, h]
theorem frozen_heap {w : World} {b : Nat} {c : Array Value} {t : TypeId} (h : w.heap[b]? = some (.cells c t (0, 0))) (o : Nat) : w.frozen? ⟨b, o, none⟩ = false := by
  simp [World.frozen?, h]

/-- Block b alone may have turned; what is frozen is as it was. -/
structure Only (b : Nat) (w w' : World) : Prop where
  os : w'.os = w.os
  tape : w'.tape = w.tape
  output : w'.output = w.output
  size : w'.heap.size = w.heap.size
  block : ∀ k, k ≠ b → w'.heap[k]? = w.heap[k]?
  frozen : ∀ o, w'.frozen? ⟨b, o, none⟩ = w.frozen? ⟨b, o, none⟩

theorem Only.refl (b : Nat) (w : World) : Only b w w := ⟨rfl, rfl, rfl, rfl, fun _ _ => rfl, fun _ => rfl⟩

theorem Only.setCell {b o : Nat} {a w : World} (h : Only b a w) (v : Value) : Only b a (w.setCell ⟨b, o, none⟩ v) := by
  refine ⟨h.os, h.tape, h.output, ?_, ?_, ?_⟩
  · simpa [World.setCell] using h.size
  · intro k hk
    rw [Below.heap_setCell _ _ _ _ hk]; exact h.block k hk
  · intro j
    rw [← h.frozen j]; simp

theorem Only.cell {b : Nat} {w w' : World} (h : Only b w w') {p : Addr} (hp : p.block ≠ b) : w'.cell? p = w.cell? p := World.cell?_of_block (w := w) (h.block p.block hp)

theorem Only.below {b B : Nat} {w w' : World} (h : Only b w w') (hB : B ≤ b) : Below B w w' :=
  ⟨h.os, h.tape, h.output, Nat.le_of_eq h.size.symm, fun k hk => h.block k (by omega)⟩

/-- Boxes in memory, two cells each. -/
def BoxAt (w : World) (b off : Nat) (bs : List (Int × Int)) : Prop :=
  b < w.heap.size ∧ ∀ i, i < bs.length → w.cell? ⟨b, off + i * 2, none⟩ = some (.int .i64 (bs.getD i (0, 0)).1) ∧ w.cell? ⟨b, off + i * 2 + 1, none⟩ = some (.int .i64 (bs.getD i (0, 0)).2)

/-- What a slice of boxes leads to. -/
def Sl (w : World) (a : Option Addr) (bs : List (Int × Int)) : Prop := bs = [] ∨ ∃ b off, a = some ⟨b, off, none⟩ ∧ BoxAt w b off bs

theorem BoxAt.below {w w' : World} {b off : Nat} {bs : List (Int × Int)} (h : BoxAt w b off bs) (hb : Below w.heap.size w w') : BoxAt w' b off bs :=
  ⟨Nat.lt_of_lt_of_le h.1 hb.size, fun i hi => by
    have := h.2 i hi
    rw [hb.cell (p := ⟨b, off + i * 2, none⟩) h.1, hb.cell (p := ⟨b, off + i * 2 + 1, none⟩) h.1]; exact this⟩

theorem Sl.below {w w' : World} {a : Option Addr} {bs : List (Int × Int)} (h : Sl w a bs) (hb : Below w.heap.size w w') : Sl w' a bs := by
  rcases h with h | ⟨b, off, rfl, h⟩
  · exact .inl h
  · exact .inr ⟨b, off, rfl, h.below hb⟩

theorem BoxAt.only {w w' : World} {b off c : Nat} {bs : List (Int × Int)} (h : BoxAt w b off bs) (hb : Only c w w') (hc : b ≠ c) : BoxAt w' b off bs :=
  ⟨by rw [hb.size]; exact h.1, fun i hi => by
    have := h.2 i hi
    rw [hb.cell (p := ⟨b, off + i * 2, none⟩) hc, hb.cell (p := ⟨b, off + i * 2 + 1, none⟩) hc]; exact this⟩

/-- The numbers k, k + 1, .. laid into n boxes. -/
def marks (k : Int) (n : Nat) : List (Int × Int) := (List.range n).map fun (i : Nat) => (k + 2 * (i : Int), k + 2 * (i : Int) + 1)

theorem marks_length (k : Int) (n : Nat) : (marks k n).length = n := by simp [marks]

theorem marks_getD (k : Int) (n i : Nat) (h : i < n) : (marks k n).getD i (0, 0) = (k + 2 * (i : Int), k + 2 * (i : Int) + 1) := by
  simp [marks, List.getD, h]

theorem take_succ_eq {xs ys : List (Int × Int)} {k : Nat} (hx : k < xs.length) (hy : k < ys.length) : (xs.take (k + 1) = ys.take (k + 1)) ↔ (xs.take k = ys.take k ∧ xs.getD k (0, 0) = ys.getD k (0, 0)) := by
  rw [List.take_succ_eq_append_getElem hx, List.take_succ_eq_append_getElem hy]
  constructor
  · intro h
    have := List.append_inj' h rfl
    refine ⟨this.1, ?_⟩
    have h2 := this.2
    simp at h2
    simp [List.getD, hx, hy, h2]
  · rintro ⟨h, h2⟩
    simp [List.getD, hx, hy] at h2
    rw [h, h2]

theorem ne_of_getD {xs ys : List (Int × Int)} {k : Nat} (h : xs.getD k (0, 0) ≠ ys.getD k (0, 0)) : (xs == ys) = false := by
  simp only [beq_eq_false_iff_ne, ne_eq]
  intro e; exact h (by rw [e])

theorem setCell_cell_same (w : World) (b o : Nat) (v u : Value) (h : w.cell? ⟨b, o, none⟩ = some u) : (w.setCell ⟨b, o, none⟩ v).cell? ⟨b, o, none⟩ = some v :=
  World.cell?_setCell_same _ _ _ h
theorem setCell_cell_other (w : World) (b o o' : Nat) (v : Value) (h : o ≠ o') : (w.setCell ⟨b, o, none⟩ v).cell? ⟨b, o', none⟩ = w.cell? ⟨b, o', none⟩ :=
  World.cell?_setCell_other _ _ _ _ (by intro e; injection e with _ e2 _; exact h e2)

theorem all_take_succ {α : Type} {p : α → Bool} {xs : List α} {k : Nat} (d : α) (h : k < xs.length) : (xs.take (k + 1)).all p = ((xs.take k).all p && p (xs.getD k d)) := by
  rw [List.take_succ_eq_append_getElem h, List.all_append]
  simp only [List.all_cons, List.all_nil, Bool.and_true, List.getD_eq_getElem?_getD, List.getElem?_eq_getElem h, Option.getD_some]

theorem all_false {α : Type} {p : α → Bool} {xs : List α} {k : Nat} (d : α) (h : k < xs.length) (hp : p (xs.getD k d) = false) : xs.all p = false := by
  rw [Bool.eq_false_iff]
  intro e
  rw [List.all_eq_true] at e
  have := e (xs.getD k d) (by simp [List.getD, h])
  rw [hp] at this
  cases this

/-- A number of 64 bits. -/
def Fits (n : Int) : Prop := -9223372036854775808 ≤ n ∧ n ≤ 9223372036854775807

theorem bcell {W w1 : World} (hb : Below W.heap.size W w1) : (∀ b o, b < W.heap.size → w1.cell? ⟨b, o, none⟩ = W.cell? ⟨b, o, none⟩) ∧ (∀ b o, b < W.heap.size → w1.frozen? ⟨b, o, none⟩ = W.frozen? ⟨b, o, none⟩) :=
  ⟨fun b o h => hb.cell (p := ⟨b, o, none⟩) h, fun b o h => hb.frozen (p := ⟨b, o, none⟩) h⟩

end Go.Proofs.Ytbbbfnfpmaogoaa.Own

namespace Go.Proofs.Ytbbbfnfpmaogoaa.Own
open Go.RowKit

theorem run_copy_fat {P : Program} (w : World) (dT sT ty elem : TypeId) (g o dLen dCap : Nat) (a : Addr) (sLen sCap sz : Nat) (cur : Array Value) (t : TypeId) (cs : List Value)
    (hu : P.underlying dT = some (.slice elem)) (hs : (P.info? elem).map (·.size) = some sz)
    (hg : w.heap[g]? = some (.cells cur t (0, 0))) (hn : cs.length = Nat.min sLen dLen * sz)
    (hsrc : ∀ j v, cs[j]? = some v → w.cell? (a.add j) = some v) (hfit : o + cs.length ≤ cur.size) (h1 : ∀ v ∈ cs, v.oneCell' = true) :
    (Builtin.copy_ #[dT, sT] ty #[.slice (some ⟨g, o, none⟩) dLen dCap, .slice (some a) sLen sCap]).run P w =
      .ok (goInt (Nat.min sLen dLen)) (w.setRow g (cur.toList.take o ++ cs ++ cur.toList.drop (o + cs.length)).toArray) := by
  have hl := run_loadCells_list (P := P) w a cs hsrc
  have hst := run_storeCells_at P g o t cs 0 cur w hg (by simpa using hfit) h1
  rw [hn] at hl
  cases hq : P.info? elem with
  | none => simp [hq] at hs
  | some i =>
    have hi : i.size = sz := by simpa [hq] using hs
    simp [Builtin.copy_, run_underlying hu, Builtin.lenOf, Builtin.firstCells, sizeOf, typeInfo, hq, hi, hl, hst]

theorem run_copy_zero {P : Program} (w : World) (dT sT ty elem : TypeId) (d a : Option Addr) (dLen dCap sLen sCap sz : Nat)
    (hu : P.underlying dT = some (.slice elem)) (hs : (P.info? elem).map (·.size) = some sz) (hn : Nat.min sLen dLen = 0) :
    (Builtin.copy_ #[dT, sT] ty #[.slice d dLen dCap, .slice a sLen sCap]).run P w = .ok (goInt 0) w := by
  cases hq : P.info? elem with
  | none => simp [hq] at hs
  | some i =>
    have hi : i.size = sz := by simpa [hq] using hs
    have hl : ∀ x, (loadCells x 0).run P w = .ok #[] w := fun x => by
      simpa using run_loadCells_list (P := P) w x [] (by simp)
    cases d <;> cases a <;> simp [Builtin.copy_, run_underlying hu, Builtin.lenOf, Builtin.firstCells, sizeOf, typeInfo, hq, hn, hl, storeCells]

theorem wpList_copy_fat {P : Program} {w : World} {ops : Array Oper} {rest : List Oper} {o : Oper} {a : Act} {Q : Exit → Act → World → Prop} (hgd : o.guard = none) (d s : Operand) (dT sT : TypeId)
    (ho : o.op = .call { callee := .builtin .copy, args := #[d, s], argTypes := #[dT, sT] }) (elem : TypeId) (sz : Nat) (hu : P.underlying dT = some (.slice elem)) (hsz : (P.info? elem).map (·.size) = some sz)
    (g off dLen dCap : Nat) (sp : Option Addr) (sLen sCap : Nat) (hd : a.eval d = .slice (some ⟨g, off, none⟩) dLen dCap) (hs : a.eval s = .slice sp sLen sCap)
    (cur : Array Value) (t : TypeId) (hg : w.heap[g]? = some (.cells cur t (0, 0))) (cs : List Value) (hn : cs.length = Nat.min sLen dLen * sz)
    (hsrc : Nat.min sLen dLen = 0 ∨ ∃ ad, sp = some ad ∧ ∀ j v, cs[j]? = some v → w.cell? (ad.add j) = some v) (hfit : off + cs.length ≤ cur.size) (h1 : ∀ v ∈ cs, v.oneCell' = true)
    (h : wpList P ops Q rest (a.put o.dst (goInt (Nat.min sLen dLen))) (w.setRow g (cur.toList.take off ++ cs ++ cur.toList.drop (off + cs.length)).toArray)) : wpList P ops Q (o :: rest) a w := by
  refine wpList_plain hgd fun K hK => ?_
  rcases hsrc with h0 | ⟨ad, rfl, hsrc⟩
  · have hcs : cs = [] := List.eq_nil_of_length_eq_zero (by rw [hn, h0]; simp)
    subst hcs
    have hrun := run_copy_zero (P := P) w dT sT o.type elem (some ⟨g, off, none⟩) sp dLen dCap sLen sCap sz hu hsz h0
    have e : w.setRow g (cur.toList.take off ++ [] ++ cur.toList.drop (off + ([] : List Value).length)).toArray = w := by
      simpa using setRow_self w g cur t (0, 0) hg
    rw [e, h0] at h
    unfold Oper.wp
    simp [execOp, ho, resolve, invoke, builtin, hd, hs, hrun, Result.andThen]
    exact hK _ _ h
  · have hrun := run_copy_fat (P := P) w dT sT o.type elem g off dLen dCap ad sLen sCap sz cur t cs hu hsz hg hn hsrc hfit h1
    unfold Oper.wp
    simp only [execOp, ho, resolve, invoke, builtin]
    simp only [List.append_assoc] at hrun h
    simp [hd, hs, hrun, Result.andThen]
    exact hK _ _ h

/-- The built-in copy as one step of a region that draws its order, elements of whatever size. -/
theorem step_copy_fat {P : Program} {ops : Array Oper} {o : Oper} {a : Act} {w : World} {K : Act → World → Prop} {Q : Exit → Act → World → Prop} {E : Prop} (hgd : o.guard = none) (d s : Operand) (dT sT : TypeId)
    (ho : o.op = .call { callee := .builtin .copy, args := #[d, s], argTypes := #[dT, sT] }) (elem : TypeId) (sz : Nat) (hu : P.underlying dT = some (.slice elem)) (hsz : (P.info? elem).map (·.size) = some sz)
    (g off dLen dCap : Nat) (sp : Option Addr) (sLen sCap : Nat) (hd : a.eval d = .slice (some ⟨g, off, none⟩) dLen dCap) (hs : a.eval s = .slice sp sLen sCap)
    (cur : List Value) (t : TypeId) (hg : w.heap[g]? = some (.cells cur.toArray t (0, 0))) (cs : List Value) (hn : cs.length = Nat.min sLen dLen * sz)
    (hpos : Nat.min sLen dLen = 0 ∨ ∃ ad, sp = some ad ∧ ∀ j v, cs[j]? = some v → w.cell? (ad.add j) = some v)
    (hfit : off + cs.length ≤ cur.length) (h1 : ∀ v ∈ cs, v.oneCell' = true) (B : Nat) (w0 : World) (hb : Below B w0 w) (hBg : B ≤ g)
    (h : ∀ w', Hid (w'.heap[g]? = some (.cells (splice cur off cs).toArray t (0, 0))) → Below B w0 w' → K (a.put o.dst (goInt (Nat.min sLen dLen))) w') :
    if Region.wanted o (yielded ops a.tmps) = true then Oper.wp P o a w K Q else E := by
  have hw : Region.wanted o (yielded ops a.tmps) = true := by simp [Region.wanted, hgd]
  rw [if_pos hw]
  rcases hpos with h0 | ⟨ad, rfl, hsrc⟩
  · have hcs : cs = [] := List.eq_nil_of_length_eq_zero (by rw [hn, h0]; simp)
    subst hcs
    have hrun := run_copy_zero (P := P) w dT sT o.type elem (some ⟨g, off, none⟩) sp dLen dCap sLen sCap sz hu hsz h0
    have h' := h w (show _ = _ by simpa [splice] using hg) hb
    rw [h0] at h'
    unfold Oper.wp
    simp [execOp, ho, resolve, invoke, builtin, hd, hs, hrun, Result.andThen]
    exact h'
  · have hrun := run_copy_fat (P := P) w dT sT o.type elem g off dLen dCap ad sLen sCap sz cur.toArray t cs hu hsz hg hn hsrc (by simpa using hfit) h1
    have h' := h _ (show _ = _ by simpa [splice] using setRow_heap w g _ _ t _ hg) (below_setRow hb hBg _)
    unfold Oper.wp
    simp only [execOp, ho, resolve, invoke, builtin]
    simp [hd, hs, hrun, Result.andThen]
    exact h'

theorem make_row {P : Program} {t e : TypeId} {z : Value} {size bytes : Nat} (ht : P.underlying t = some (.slice e)) (hi : (P.info? e).map (fun i => (i.zero, i.size, i.bytes)) = some (some z, size, bytes))
    (n : Nat) (hn : bytes * n ≤ 281474976710656) (h63 : n ≤ 2 ^ 50) (w : World) :
    (Instr.makeSlice t (.int .i64 n) (.int .i64 n)).run P w = .ok (.slice (some ⟨w.heap.size, 0, none⟩) n n) (w.alloc (.cells (madeCells z.cells (n * size)) e)) := by
  obtain ⟨i, h1, h2, h3, h4⟩ := info_parts hi
  have hb : (i.bytes : Int) * (n : Int) ≤ 281474976710656 := by
    have h : ((bytes * n : Nat) : Int) ≤ 281474976710656 := by omega
    rw [h4]
    rwa [Int.natCast_mul] at h
  have := run_make (P := P) w t e i z ht h1 h2 .i64 .i64 n n (by omega) (by omega) hb (by omega)
  rw [h3] at this
  simpa using this

theorem made_cell {z : Array Value} {n k : Nat} (hz : 0 < z.size) (h : k < n) (h1 : ∀ v ∈ z, v.oneCell' = true) : ∃ v, (madeCells z n)[k]? = some v ∧ v.oneCell' = true := by
  have hk : k % z.size < z.size := Nat.mod_lt _ hz
  refine ⟨z[k % z.size]'hk, ?_, h1 _ (by simp)⟩
  simp [madeCells, h, hk]
end Go.Proofs.Ytbbbfnfpmaogoaa.Own

namespace Go.Proofs.Ytbbbfnfpmaogoaa.Own
open Go.RowKit

theorem infoRead : (Try.prog.info? 160).map (fun i => (i.zero, i.size, i.bytes)) = some (some (.agg #[.int .i64 0, .int .i64 0]), 2, 16) := by kernel_rfl

set_option maxHeartbeats 400000 in
theorem szReadS (a : Option Addr) (n c : Nat) (left : Int) (w : World) (hn : n ≤ maxLen) (h0 : 0 ≤ left) (h1 : left ≤ 2 ^ 60) :
    Calls Try.prog 116 #[.slice a n c, .int .i64 left] w fun e w' => e = .returned (.int .i64 (if left - n < 0 then -1 else left - n)) ∧ w' = w := by
  unfold maxLen at hn
  go_enter Try.func116, Try.ntmps116
  go_wp2
  all_goals
    go_ret
    exact ⟨rfl, rfl⟩

set_option maxHeartbeats 400000 in
theorem toRead (a b : Int) (w : World) : Calls Try.prog 139 #[.agg #[.int .i64 a, .int .i64 b]] w fun e w' => e = .returned (.agg #[.int .i64 a, .int .i64 b]) ∧ Below w.heap.size w w' := by
  go_enter Try.func139, Try.ntmps139
  go_wp2
  refine bodyPost_ret (v := .agg #[.int .i64 a, .int .i64 b]) (by simp [results, Try.results139, go_sem]) rfl ⟨rfl, ?_⟩
  exact ((((Below.refl _ _).alloc (Nat.le_refl _) _).alloc (by simp) _).alloc (by simp; omega) _)

/-- A row of n boxes of one's own. -/
def RowR (w : World) (b n : Nat) : Prop := ∃ C, w.heap[b]? = some (.cells C 160 (0, 0)) ∧ C.size = n * 2 ∧ ∀ v ∈ C, v.oneCell' = true

theorem RowR.setCell {w : World} {b n : Nat} (h : RowR w b n) (o : Nat) (v : Value) (hv : v.oneCell' = true) : RowR (w.setCell ⟨b, o, none⟩ v) b n := by
  obtain ⟨C, h1, h2, h3⟩ := h
  refine ⟨C.setIfInBounds o v, ?_, by simpa using h2, ?_⟩
  · simp [World.setCell, Array.getElem?_modify, h1]
  · intro u hu
    rcases Array.mem_or_eq_of_mem_setIfInBounds hu with h | h
    · exact h3 u h
    · rw [h]; exact hv

theorem RowR.cell {w : World} {b n : Nat} (h : RowR w b n) (o : Nat) (ho : o < n * 2) : ∃ v, w.cell? ⟨b, o, none⟩ = some v ∧ v.oneCell' = true := by
  obtain ⟨C, h1, h2, h3⟩ := h
  rw [cell_heap h1]
  exact ⟨C[o]'(by omega), by simp, h3 _ (by simp)⟩

theorem RowR.frozen {w : World} {b n : Nat} (h : RowR w b n) (o : Nat) : w.frozen? ⟨b, o, none⟩ = false := by
  obtain ⟨C, h1, _⟩ := h
  exact frozen_heap h1 o

theorem RowR.lt {w : World} {b n : Nat} (h : RowR w b n) : b < w.heap.size := by
  obtain ⟨C, h1, _⟩ := h
  exact (Array.getElem?_eq_some_iff.1 h1).1

theorem RowR.below {w w' : World} {b n B : Nat} (h : RowR w b n) (hb : Below B w w') (hB : b < B) : RowR w' b n := by
  obtain ⟨C, h1, h2⟩ := h
  exact ⟨C, by rw [hb.block _ hB]; exact h1, h2⟩

theorem RowR.made (w : World) (n : Nat) : RowR (w.alloc (.cells (madeCells (Value.agg #[.int .i64 0, .int .i64 0]).cells (n * 2)) 160)) w.heap.size n := by
  refine ⟨_, heap_new _ _, size_madeCells _ _, ?_⟩
  intro v hv
  obtain ⟨k, hk, rfl⟩ := Array.getElem_of_mem hv
  rw [size_madeCells] at hk
  obtain ⟨v, h1, h2⟩ := made_cell (z := (Value.agg #[.int .i64 0, .int .i64 0]).cells) (n := n * 2) (k := k) (by decide) hk (by simp [Value.cells, Value.oneCell'])
  rw [Array.getElem?_eq_getElem (by simpa [size_madeCells] using hk)] at h1
  injection h1 with h1
  rw [h1]; exact h2

set_option maxHeartbeats 1000000 in
theorem toReadS (a : Option Addr) (c : Nat) (xs : List (Int × Int)) (w : World) (h : Sl w a xs) (hn : xs.length ≤ 2 ^ 40) :
    Calls Try.prog 119 #[.slice a xs.length c] w fun e w' => e = .returned (.slice (some ⟨w.heap.size, 0, none⟩) xs.length xs.length) ∧ BoxAt w' w.heap.size 0 xs ∧ RowR w' w.heap.size xs.length ∧ Below w.heap.size w w' := by
  have H1 : Hid (Sl w a xs) := h
  clear h
  have hmk := make_row (P := Try.prog) Try.underlying29 infoRead xs.length (by omega) (by omega)
  go_enter Try.func119, Try.ntmps119
  go_wp2
  clear hmk
  go_loopw [4] (fun i wr => ∃ k : Nat, k ≤ xs.length ∧ i = .int .i64 k ∧ BoxAt wr w.heap.size 0 (xs.take k) ∧ RowR wr w.heap.size xs.length ∧ Below w.heap.size w wr) (fun i _ => xs.length - (intOf i).toNat)
  case atStart => exact ⟨0, Nat.zero_le _, rfl, ⟨by simp, by simp⟩, RowR.made w _, (Below.refl _ _).alloc (Nat.le_refl _) _⟩
  case round =>
    obtain ⟨k, hk, rfl, hat, hrow, hB⟩ := hrel
    by_cases hlt : k < xs.length
    · rcases H1.out with h | ⟨b1, o1, rfl, h1⟩
      · subst h; simp at hlt
      have H1' : Hid (BoxAt w b1 o1 xs) := h1
      clear h1
      obtain ⟨p, hp⟩ : ∃ p, p = xs.getD k (0, 0) := ⟨_, rfl⟩
      have ca := (H1'.out.2 k hlt).1
      have cb := (H1'.out.2 k hlt).2
      rw [← hB.cell H1'.out.1, ← hp] at ca cb
      have HP : Hid (p = xs.getD k (0, 0)) := hp
      have HA : Hid (BoxAt wr w.heap.size 0 (xs.take k)) := hat
      have HR : Hid (RowR wr w.heap.size xs.length) := hrow
      clear hp hat hrow
      obtain ⟨p1, p2⟩ := p
      go_wp2_with fail
      refine (toRead p1 p2 _).mono ?_
      rintro e w1 ⟨rfl, hb1⟩
      have R1 := HR.out.below hb1 HR.out.lt
      have HR1 : Hid (RowR w1 w.heap.size xs.length) := R1
      obtain ⟨v1, c1, _⟩ := R1.cell (k * 2) (by omega)
      obtain ⟨v2, c2, _⟩ := R1.cell (k * 2 + 1) (by omega)
      have f1 := R1.frozen (k * 2)
      have f2 := R1.frozen (k * 2 + 1)
      have HA1 : Hid (BoxAt w1 w.heap.size 0 (xs.take k)) := HA.out.below hb1
      have HB1 : Hid (Below w.heap.size w w1) := hB.trans (hb1.mono hB.size)
      clear R1 hb1 ca cb
      go_wp2
      go_roundw
      case rel =>
        refine ⟨k + 1, by omega, by go_num, ?_, (HR1.out.setCell _ _ rfl).setCell _ _ rfl, (HB1.out.setCell (Nat.le_refl _) _).setCell (Nat.le_refl _) _⟩
        refine ⟨by simpa [World.setCell] using HR1.out.lt, fun i hi => ?_⟩
        have hi' : i < k + 1 := by simp at hi; omega
        rw [Nat.zero_add]
        by_cases e : i = k
        · subst e
          have e2 : (xs.take (i + 1)).getD i (0, 0) = (p1, p2) := by
            rw [HP.out]; simp [List.getD]
          rw [e2]
          exact ⟨by rw [setCell_cell_other _ _ _ _ _ (by omega)]; exact setCell_cell_same _ _ _ _ _ c1, setCell_cell_same _ _ _ _ v2 (by rw [setCell_cell_other _ _ _ _ _ (by omega)]; exact c2)⟩
        · have := HA1.out.2 i (by simp; omega)
          rw [Nat.zero_add] at this
          have e2 : (xs.take (k + 1)).getD i (0, 0) = (xs.take k).getD i (0, 0) := by
            simp [List.getD, show i < k by omega, show i < k + 1 by omega]
          rw [e2, setCell_cell_other _ _ _ _ _ (by omega), setCell_cell_other _ _ _ _ _ (by omega), setCell_cell_other _ _ _ _ _ (by omega), setCell_cell_other _ _ _ _ _ (by omega)]
          exact this
      case measure => simp [intOf]; omega
    · go_wp2
      go_ret
      have : k = xs.length := by omega
      subst this
      refine ⟨rfl, ?_, hrow, hB⟩
      rw [List.take_length] at hat
      exact hat
end Go.Proofs.Ytbbbfnfpmaogoaa.Own

namespace Go.Proofs.Ytbbbfnfpmaogoaa.Own
open Go.RowKit

theorem infoPut : (Try.prog.info? 162).map (fun i => (i.zero, i.size, i.bytes)) = some (some (.agg #[.int .i64 0, .int .i64 0]), 2, 16) := by kernel_rfl

set_option maxHeartbeats 400000 in
theorem szPutS (a : Option Addr) (n c : Nat) (left : Int) (w : World) (hn : n ≤ maxLen) (h0 : 0 ≤ left) (h1 : left ≤ 2 ^ 60) :
    Calls Try.prog 117 #[.slice a n c, .int .i64 left] w fun e w' => e = .returned (.int .i64 (if left - n < 0 then -1 else left - n)) ∧ w' = w := by
  unfold maxLen at hn
  go_enter Try.func117, Try.ntmps117
  go_wp2
  all_goals
    go_ret
    exact ⟨rfl, rfl⟩

set_option maxHeartbeats 400000 in
theorem toPut (a b : Int) (w : World) : Calls Try.prog 140 #[.agg #[.int .i64 a, .int .i64 b]] w fun e w' => e = .returned (.agg #[.int .i64 a, .int .i64 b]) ∧ Below w.heap.size w w' := by
  go_enter Try.func140, Try.ntmps140
  go_wp2
  refine bodyPost_ret (v := .agg #[.int .i64 a, .int .i64 b]) (by simp [results, Try.results140, go_sem]) rfl ⟨rfl, ?_⟩
  exact ((((Below.refl _ _).alloc (Nat.le_refl _) _).alloc (by simp) _).alloc (by simp; omega) _)

/-- A row of n boxes of one's own. -/
def RowP (w : World) (b n : Nat) : Prop := ∃ C, w.heap[b]? = some (.cells C 162 (0, 0)) ∧ C.size = n * 2 ∧ ∀ v ∈ C, v.oneCell' = true

theorem RowP.setCell {w : World} {b n : Nat} (h : RowP w b n) (o : Nat) (v : Value) (hv : v.oneCell' = true) : RowP (w.setCell ⟨b, o, none⟩ v) b n := by
  obtain ⟨C, h1, h2, h3⟩ := h
  refine ⟨C.setIfInBounds o v, ?_, by simpa using h2, ?_⟩
  · simp [World.setCell, Array.getElem?_modify, h1]
  · intro u hu
    rcases Array.mem_or_eq_of_mem_setIfInBounds hu with h | h
    · exact h3 u h
    · rw [h]; exact hv

theorem RowP.cell {w : World} {b n : Nat} (h : RowP w b n) (o : Nat) (ho : o < n * 2) : ∃ v, w.cell? ⟨b, o, none⟩ = some v ∧ v.oneCell' = true := by
  obtain ⟨C, h1, h2, h3⟩ := h
  rw [cell_heap h1]
  exact ⟨C[o]'(by omega), by simp, h3 _ (by simp)⟩

theorem RowP.frozen {w : World} {b n : Nat} (h : RowP w b n) (o : Nat) : w.frozen? ⟨b, o, none⟩ = false := by
  obtain ⟨C, h1, _⟩ := h
  exact frozen_heap h1 o

theorem RowP.lt {w : World} {b n : Nat} (h : RowP w b n) : b < w.heap.size := by
  obtain ⟨C, h1, _⟩ := h
  exact (Array.getElem?_eq_some_iff.1 h1).1

theorem RowP.below {w w' : World} {b n B : Nat} (h : RowP w b n) (hb : Below B w w') (hB : b < B) : RowP w' b n := by
  obtain ⟨C, h1, h2⟩ := h
  exact ⟨C, by rw [hb.block _ hB]; exact h1, h2⟩

theorem RowP.made (w : World) (n : Nat) : RowP (w.alloc (.cells (madeCells (Value.agg #[.int .i64 0, .int .i64 0]).cells (n * 2)) 162)) w.heap.size n := by
  refine ⟨_, heap_new _ _, size_madeCells _ _, ?_⟩
  intro v hv
  obtain ⟨k, hk, rfl⟩ := Array.getElem_of_mem hv
  rw [size_madeCells] at hk
  obtain ⟨v, h1, h2⟩ := made_cell (z := (Value.agg #[.int .i64 0, .int .i64 0]).cells) (n := n * 2) (k := k) (by decide) hk (by simp [Value.cells, Value.oneCell'])
  rw [Array.getElem?_eq_getElem (by simpa [size_madeCells] using hk)] at h1
  injection h1 with h1
  rw [h1]; exact h2

set_option maxHeartbeats 1000000 in
theorem toPutS (a : Option Addr) (c : Nat) (xs : List (Int × Int)) (w : World) (h : Sl w a xs) (hn : xs.length ≤ 2 ^ 40) :
    Calls Try.prog 120 #[.slice a xs.length c] w fun e w' => e = .returned (.slice (some ⟨w.heap.size, 0, none⟩) xs.length xs.length) ∧ BoxAt w' w.heap.size 0 xs ∧ RowP w' w.heap.size xs.length ∧ Below w.heap.size w w' := by
  have H1 : Hid (Sl w a xs) := h
  clear h
  have hmk := make_row (P := Try.prog) Try.underlying30 infoPut xs.length (by omega) (by omega)
  go_enter Try.func120, Try.ntmps120
  go_wp2
  clear hmk
  go_loopw [4] (fun i wr => ∃ k : Nat, k ≤ xs.length ∧ i = .int .i64 k ∧ BoxAt wr w.heap.size 0 (xs.take k) ∧ RowP wr w.heap.size xs.length ∧ Below w.heap.size w wr) (fun i _ => xs.length - (intOf i).toNat)
  case atStart => exact ⟨0, Nat.zero_le _, rfl, ⟨by simp, by simp⟩, RowP.made w _, (Below.refl _ _).alloc (Nat.le_refl _) _⟩
  case round =>
    obtain ⟨k, hk, rfl, hat, hrow, hB⟩ := hrel
    by_cases hlt : k < xs.length
    · rcases H1.out with h | ⟨b1, o1, rfl, h1⟩
      · subst h; simp at hlt
      have H1' : Hid (BoxAt w b1 o1 xs) := h1
      clear h1
      obtain ⟨p, hp⟩ : ∃ p, p = xs.getD k (0, 0) := ⟨_, rfl⟩
      have ca := (H1'.out.2 k hlt).1
      have cb := (H1'.out.2 k hlt).2
      rw [← hB.cell H1'.out.1, ← hp] at ca cb
      have HP : Hid (p = xs.getD k (0, 0)) := hp
      have HA : Hid (BoxAt wr w.heap.size 0 (xs.take k)) := hat
      have HR : Hid (RowP wr w.heap.size xs.length) := hrow
      clear hp hat hrow
      obtain ⟨p1, p2⟩ := p
      go_wp2_with fail
      refine (toPut p1 p2 _).mono ?_
      rintro e w1 ⟨rfl, hb1⟩
      have R1 := HR.out.below hb1 HR.out.lt
      have HR1 : Hid (RowP w1 w.heap.size xs.length) := R1
      obtain ⟨v1, c1, _⟩ := R1.cell (k * 2) (by omega)
      obtain ⟨v2, c2, _⟩ := R1.cell (k * 2 + 1) (by omega)
      have f1 := R1.frozen (k * 2)
      have f2 := R1.frozen (k * 2 + 1)
      have HA1 : Hid (BoxAt w1 w.heap.size 0 (xs.take k)) := HA.out.below hb1
      have HB1 : Hid (Below w.heap.size w w1) := hB.trans (hb1.mono hB.size)
      clear R1 hb1 ca cb
      go_wp2
      go_roundw
      case rel =>
        refine ⟨k + 1, by omega, by go_num, ?_, (HR1.out.setCell _ _ rfl).setCell _ _ rfl, (HB1.out.setCell (Nat.le_refl _) _).setCell (Nat.le_refl _) _⟩
        refine ⟨by simpa [World.setCell] using HR1.out.lt, fun i hi => ?_⟩
        have hi' : i < k + 1 := by simp at hi; omega
        rw [Nat.zero_add]
        by_cases e : i = k
        · subst e
          have e2 : (xs.take (i + 1)).getD i (0, 0) = (p1, p2) := by
            rw [HP.out]; simp [List.getD]
          rw [e2]
          exact ⟨by rw [setCell_cell_other _ _ _ _ _ (by omega)]; exact setCell_cell_same _ _ _ _ _ c1, setCell_cell_same _ _ _ _ v2 (by rw [setCell_cell_other _ _ _ _ _ (by omega)]; exact c2)⟩
        · have := HA1.out.2 i (by simp; omega)
          rw [Nat.zero_add] at this
          have e2 : (xs.take (k + 1)).getD i (0, 0) = (xs.take k).getD i (0, 0) := by
            simp [List.getD, show i < k by omega, show i < k + 1 by omega]
          rw [e2, setCell_cell_other _ _ _ _ _ (by omega), setCell_cell_other _ _ _ _ _ (by omega), setCell_cell_other _ _ _ _ _ (by omega), setCell_cell_other _ _ _ _ _ (by omega)]
          exact this
      case measure => simp [intOf]; omega
    · go_wp2
      go_ret
      have : k = xs.length := by omega
      subst this
      refine ⟨rfl, ?_, hrow, hB⟩
      rw [List.take_length] at hat
      exact hat
end Go.Proofs.Ytbbbfnfpmaogoaa.Own
