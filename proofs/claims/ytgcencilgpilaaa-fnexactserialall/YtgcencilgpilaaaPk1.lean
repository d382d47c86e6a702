/-
  Own texts, bundled: Base, Bar, Pick, Mem, Open, To, Draw, Base4, OwnQ, Cells4, DrawQ, DrawProg.
-/
import Derived.Test.YtgcencilgpilaaaRows
import Derived.WalkKit
import Derived.WalkSpells
import Derived.WalkLawsBesides
import Derived.Outline
import Derived.Deep.RegionWith
import Derived.Deep.LoopGhost
import Derived.BigQuiet
import Derived.Deep.QuietTactic
import Derived.Laws.CopyOwn
import Derived.OwnWalk
import Derived.Deep.Cut
import Derived.Deep.CutRange
import Derived.Deep.AppendLies
namespace Go.Proofs.Ytgcencilgpilaaa.Own
open Go.RowKit

theorem ret_bool {a b : Bool} (h : a = b) : Ending.returned (.bool a) = .returned (.bool b) := by rw [h]
theorem ret_int {k : IntKind} {a b : Int} (h : a = b) : Ending.returned (.int k a) = .returned (.int k b) := by rw [h]

theorem heap_new (w : World) (o : Obj) : (w.alloc o).heap[w.heap.size]? = some o := by
  show (w.heap.push o)[w.heap.size]? = _
  simp
theorem size_new (w : World) (o : Obj) : (w.alloc o).heap.size = w.heap.size + 1 := by
  show (w.heap.push o).size = _
  simp
theorem heap_old (w : World) (o : Obj) (k : Nat) (h : k < w.heap.size) : (w.alloc o).heap[k]? = w.heap[k]? := Below.heap_alloc w o k h
theorem heap_new2 (w : World) (o o' : Obj) : ((w.alloc o).alloc o').heap[w.heap.size + 1]? = some o' := by
  have := heap_new (w.alloc o) o'
  rwa [size_new] at this
theorem heap_new1 (w : World) (o o' : Obj) : ((w.alloc o).alloc o').heap[w.heap.size]? = some o := by
  rw [heap_old _ _ _ (by rw [size_new]; omega)]; exact heap_new w o
theorem cell_heap {w : World} {b : Nat} {c : Array Value} {t : TypeId} {f : Nat × Nat} (h : w.heap[b]? = some (.cells c t f)) (o : Nat) : w.cell? ⟨b, o, none⟩ = c[o]? := by
  simp [World.cell?, h]
theorem frozen_heap {w : World} {b : Nat} {c : Array Value} {t : TypeId} (h : w.heap[b]? = some (.cells c t (0, 0))) (o : Nat) : w.frozen? ⟨b, o, none⟩ = false := by
  simp [World.frozen?, h]

/-- Block b alone may have turned; what is frozen is as it was. -/
structure Only (b : Nat) (w w' : World) : Prop where
  os : w'.os = w.os
  tape : w'.tape = w.tape
  output : w'.output = w.output
  size : w'.heap.size = w.heap.size
  block : ∀ k, k ≠ b → w'.heap[k]? = w.heap[k]?
  frozen : ∀ o, w'.frozen? ⟨b, o, none⟩ = w.frozen? ⟨b, o, none⟩

theorem Only.refl (b : Nat) (w : World) : Only b w w := ⟨rfl, rfl, rfl, rfl, fun _ _ => rfl, fun _ => rfl⟩

theorem Only.setCell {b o : Nat} {a w : World} (h : Only b a w) (v : Value) : Only b a (w.setCell ⟨b, o, none⟩ v) := by
  refine ⟨h.os, h.tape, h.output, ?_, ?_, ?_⟩
  · simpa [World.setCell] using h.size
  · intro k hk
    rw [Below.heap_setCell _ _ _ _ hk]; exact h.block k hk
  · intro j
    rw [← h.frozen j]; simp

theorem Only.cell {b : Nat} {w w' : World} (h : Only b w w') {p : Addr} (hp : p.block ≠ b) : w'.cell? p = w.cell? p := World.cell?_of_block (w := w) (h.block p.block hp)

theorem Only.below {b B : Nat} {w w' : World} (h : Only b w w') (hB : B ≤ b) : Below B w w' :=
  ⟨h.os, h.tape, h.output, Nat.le_of_eq h.size.symm, fun k hk => h.block k (by omega)⟩

/-- Boxes in memory, two cells each. -/
def BoxAt (w : World) (b off : Nat) (bs : List (Int × Int)) : Prop :=
  b < w.heap.size ∧ ∀ i, i < bs.length → w.cell? ⟨b, off + i * 2, none⟩ = some (.int .i64 (bs.getD i (0, 0)).1) ∧ w.cell? ⟨b, off + i * 2 + 1, none⟩ = some (.int .i64 (bs.getD i (0, 0)).2)

/-- What a slice of boxes leads to. -/
def Sl (w : World) (a : Option Addr) (bs : List (Int × Int)) : Prop := bs = [] ∨ ∃ b off, a = some ⟨b, off, none⟩ ∧ BoxAt w b off bs

theorem BoxAt.below {w w' : World} {b off : Nat} {bs : List (Int × Int)} (h : BoxAt w b off bs) (hb : Below w.heap.size w w') : BoxAt w' b off bs :=
  ⟨Nat.lt_of_lt_of_le h.1 hb.size, fun i hi => by
    have := h.2 i hi
    rw [hb.cell (p := ⟨b, off + i * 2, none⟩) h.1, hb.cell (p := ⟨b, off + i * 2 + 1, none⟩) h.1]; exact this⟩

theorem Sl.below {w w' : World} {a : Option Addr} {bs : List (Int × Int)} (h : Sl w a bs) (hb : Below w.heap.size w w') : Sl w' a bs := by
  rcases h with h | ⟨b, off, rfl, h⟩
  · exact .inl h
  · exact .inr ⟨b, off, rfl, h.below hb⟩

theorem BoxAt.only {w w' : World} {b off c : Nat} {bs : List (Int × Int)} (h : BoxAt w b off bs) (hb : Only c w w') (hc : b ≠ c) : BoxAt w' b off bs :=
  ⟨by rw [hb.size]; exact h.1, fun i hi => by
    have := h.2 i hi
    rw [hb.cell (p := ⟨b, off + i * 2, none⟩) hc, hb.cell (p := ⟨b, off + i * 2 + 1, none⟩) hc]; exact this⟩

/-- The numbers k, k + 1, .. laid into n boxes. -/
def marks (k : Int) (n : Nat) : List (Int × Int) := (List.range n).map fun (i : Nat) => (k + 2 * (i : Int), k + 2 * (i : Int) + 1)

theorem marks_length (k : Int) (n : Nat) : (marks k n).length = n := by simp [marks]

theorem marks_getD (k : Int) (n i : Nat) (h : i < n) : (marks k n).getD i (0, 0) = (k + 2 * (i : Int), k + 2 * (i : Int) + 1) := by
  simp [marks, List.getD, h]

theorem take_succ_eq {xs ys : List (Int × Int)} {k : Nat} (hx : k < xs.length) (hy : k < ys.length) : (xs.take (k + 1) = ys.take (k + 1)) ↔ (xs.take k = ys.take k ∧ xs.getD k (0, 0) = ys.getD k (0, 0)) := by
  rw [List.take_succ_eq_append_getElem hx, List.take_succ_eq_append_getElem hy]
  constructor
  · intro h
    have := List.append_inj' h rfl
    refine ⟨this.1, ?_⟩
    have h2 := this.2
    simp at h2
    simp [List.getD, hx, hy, h2]
  · rintro ⟨h, h2⟩
    simp [List.getD, hx, hy] at h2
    rw [h, h2]

theorem ne_of_getD {xs ys : List (Int × Int)} {k : Nat} (h : xs.getD k (0, 0) ≠ ys.getD k (0, 0)) : (xs == ys) = false := by
  simp only [beq_eq_false_iff_ne, ne_eq]
  intro e; exact h (by rw [e])

theorem setCell_cell_same (w : World) (b o : Nat) (v u : Value) (h : w.cell? ⟨b, o, none⟩ = some u) : (w.setCell ⟨b, o, none⟩ v).cell? ⟨b, o, none⟩ = some v :=
  World.cell?_setCell_same _ _ _ h
theorem setCell_cell_other (w : World) (b o o' : Nat) (v : Value) (h : o ≠ o') : (w.setCell ⟨b, o, none⟩ v).cell? ⟨b, o', none⟩ = w.cell? ⟨b, o', none⟩ :=
  World.cell?_setCell_other _ _ _ _ (by intro e; injection e with _ e2 _; exact h e2)

theorem all_take_succ {α : Type} {p : α → Bool} {xs : List α} {k : Nat} (d : α) (h : k < xs.length) : (xs.take (k + 1)).all p = ((xs.take k).all p && p (xs.getD k d)) := by
  rw [List.take_succ_eq_append_getElem h, List.all_append]
  simp only [List.all_cons, List.all_nil, Bool.and_true, List.getD_eq_getElem?_getD, List.getElem?_eq_getElem h, Option.getD_some]

theorem all_false {α : Type} {p : α → Bool} {xs : List α} {k : Nat} (d : α) (h : k < xs.length) (hp : p (xs.getD k d) = false) : xs.all p = false := by
  rw [Bool.eq_false_iff]
  intro e
  rw [List.all_eq_true] at e
  have := e (xs.getD k d) (by simp [List.getD, h])
  rw [hp] at this
  cases this

/-- A number of 64 bits. -/
def Fits (n : Int) : Prop := -9223372036854775808 ≤ n ∧ n ≤ 9223372036854775807

theorem bcell {W w1 : World} (hb : Below W.heap.size W w1) : (∀ b o, b < W.heap.size → w1.cell? ⟨b, o, none⟩ = W.cell? ⟨b, o, none⟩) ∧ (∀ b o, b < W.heap.size → w1.frozen? ⟨b, o, none⟩ = W.frozen? ⟨b, o, none⟩) :=
  ⟨fun b o h => hb.cell (p := ⟨b, o, none⟩) h, fun b o h => hb.frozen (p := ⟨b, o, none⟩) h⟩

end Go.Proofs.Ytgcencilgpilaaa.Own

namespace Go.Proofs.Ytgcencilgpilaaa.Own
open Go.RowKit

/-- Of the blocks that were there none but rb has turned. -/
structure Bar (rb : Nat) (w w' : World) : Prop where
  os : w'.os = w.os
  tape : w'.tape = w.tape
  output : w'.output = w.output
  size : w.heap.size ≤ w'.heap.size
  block : ∀ k, k < w.heap.size → k ≠ rb → w'.heap[k]? = w.heap[k]?

theorem Bar.refl (rb : Nat) (w : World) : Bar rb w w := ⟨rfl, rfl, rfl, Nat.le_refl _, fun _ _ _ => rfl⟩
theorem Bar.trans {rb : Nat} {a b c : World} (h : Bar rb a b) (k : Bar rb b c) : Bar rb a c :=
  ⟨k.os.trans h.os, k.tape.trans h.tape, k.output.trans h.output, Nat.le_trans h.size k.size, fun i hi hn => (k.block i (Nat.lt_of_lt_of_le hi h.size) hn).trans (h.block i hi hn)⟩
theorem Bar.ofBelow {rb : Nat} {w w' : World} (h : Below w.heap.size w w') : Bar rb w w' := ⟨h.os, h.tape, h.output, h.size, fun k hk _ => h.block k hk⟩
theorem Bar.ofOnly {rb : Nat} {w w' : World} (h : Only rb w w') : Bar rb w w' := ⟨h.os, h.tape, h.output, Nat.le_of_eq h.size.symm, fun k _ hn => h.block k hn⟩
theorem Bar.setCell {rb : Nat} {a w : World} (h : Bar rb a w) {p : Addr} (hp : a.heap.size ≤ p.block) (v : Value) : Bar rb a (w.setCell p v) :=
  ⟨h.os, h.tape, h.output, by simpa [World.setCell] using h.size, fun k hk hn => by rw [Below.heap_setCell _ _ _ _ (by omega)]; exact h.block k hk hn⟩
theorem Bar.alloc {rb : Nat} {a w : World} (h : Bar rb a w) (o : Obj) : Bar rb a (w.alloc o) :=
  h.trans (Bar.ofBelow ((Below.refl _ _).alloc (Nat.le_refl _) _))
theorem Bar.below {rb B : Nat} {w w' : World} (h : Bar rb w w') (hB : B ≤ rb) (hB2 : B ≤ w.heap.size) : Below B w w' := ⟨h.os, h.tape, h.output, h.size, fun k hk => h.block k (by omega) (by omega)⟩
end Go.Proofs.Ytgcencilgpilaaa.Own

namespace Go.Proofs.Ytgcencilgpilaaa.Own
open Go.RowKit

/-- Bytes in memory, in a block below B. -/
def Bytes (w : World) (B : Nat) (a : Option Addr) (n : Nat) : Prop := n = 0 ∨ ∃ b off, a = some ⟨b, off, none⟩ ∧ b < B ∧ ∀ i, i < n → ∃ z : Nat, z < 256 ∧ w.cell? ⟨b, off + i, none⟩ = some (.int .u8 z)

/-- A reader in block rb, at place p; what it reads lies below B. -/
def Rd (w : World) (rb B : Nat) (p : Nat) : Prop := rb < B ∧ B ≤ w.heap.size ∧ ∃ a n c, w.cell? ⟨rb, 0, none⟩ = some (.slice a n c) ∧ w.cell? ⟨rb, 1, none⟩ = some (.int .i64 p) ∧ (∀ o, w.frozen? ⟨rb, o, none⟩ = false) ∧ n ≤ 2000 ∧ Bytes w B a n ∧ (n = 0 ∨ ∀ x, a = some x → x.block ≠ rb)

theorem Bar.at {rb : Nat} {w w' : World} (h : Bar rb w w') {b off : Nat} {xs : List (Int × Int)} (hx : BoxAt w b off xs) (hb : b ≠ rb) : BoxAt w' b off xs := by
  have e : ∀ o, w'.cell? ⟨b, o, none⟩ = w.cell? ⟨b, o, none⟩ := fun o => World.cell?_of_block (w := w) (a := ⟨b, o, none⟩) (h.block b hx.1 hb)
  refine ⟨Nat.lt_of_lt_of_le hx.1 h.size, fun i hi => ?_⟩
  rw [e, e]; exact hx.2 i hi

theorem Rd.keep {w w' : World} {rb B p : Nat} (h : Rd w rb B p) (hs : w.heap.size ≤ w'.heap.size) (hk : ∀ k, k < B → w'.heap[k]? = w.heap[k]?) : Rd w' rb B p := by
  obtain ⟨hrb, hB, a, n, c, c0, c1, hfr, hn, hby, hne⟩ := h
  have e : ∀ b o, b < B → w'.cell? ⟨b, o, none⟩ = w.cell? ⟨b, o, none⟩ := fun b o hb => World.cell?_of_block (w := w) (a := ⟨b, o, none⟩) (hk b hb)
  refine ⟨hrb, Nat.le_trans hB hs, a, n, c, by rw [e _ _ hrb]; exact c0, by rw [e _ _ hrb]; exact c1, fun o => ?_, hn, ?_, hne⟩
  · rw [World.frozen?_of_block (w := w) (a := ⟨rb, o, none⟩) (hk rb hrb)]; exact hfr o
  · rcases hby with h | ⟨b, off, rfl, hb, hz⟩
    · exact .inl h
    · exact .inr ⟨b, off, rfl, hb, fun i hi => by rw [e _ _ hb]; exact hz i hi⟩
theorem Rd.below {w w' : World} {rb B p : Nat} (h : Rd w rb B p) (hb : Below w.heap.size w w') : Rd w' rb B p := h.keep hb.size fun k hk => hb.block k (Nat.lt_of_lt_of_le hk h.2.1)
theorem Rd.setCell {w : World} {rb B p : Nat} (h : Rd w rb B p) {q : Addr} (hq : B ≤ q.block) (v : Value) : Rd (w.setCell q v) rb B p := h.keep (by simp [World.setCell]) fun k hk => Below.heap_setCell _ _ _ _ (by omega)
theorem Rd.alloc {w : World} {rb B p : Nat} (h : Rd w rb B p) (o : Obj) : Rd (w.alloc o) rb B p := h.below ((Below.refl _ _).alloc (Nat.le_refl _) _)

theorem rd_next {w : World} {rb B p : Nat} (h : Rd w rb B p) : Rd (w.setCell ⟨rb, 1, none⟩ (.int .i64 ((p : Int) + 1))) rb B (p + 1) ∧ Only rb w (w.setCell ⟨rb, 1, none⟩ (.int .i64 ((p : Int) + 1))) := by
  obtain ⟨hrb, hB, a, n, c, c0, c1, hfr, hn, hby, hne⟩ := h
  refine ⟨⟨hrb, by simpa [World.setCell] using hB, a, n, c, ?_, ?_, ?_, hn, ?_, hne⟩, (Only.refl _ _).setCell _⟩
  · rw [setCell_cell_other _ _ _ _ _ (by omega)]; exact c0
  · rw [setCell_cell_same _ _ _ _ _ c1]; rfl
  · intro o; simpa using hfr o
  · rcases hby with h | ⟨b, off, rfl, hb, hz⟩
    · exact .inl h
    rcases hne with h | hne
    · exact .inl h
    · refine .inr ⟨b, off, rfl, hb, fun i hi => ?_⟩
      rw [World.cell?_setCell_other _ _ _ _ (by intro e; injection e with e1; exact hne _ rfl e1.symm)]
      exact hz i hi

theorem rd_drew {w w' : World} {rb B p : Nat} (h : Rd w rb B p ∧ Only rb w' w) (n : Nat) : Rd (w.drewN n) rb B p ∧ Only rb w' (w.drewN n) := by
  obtain ⟨h, o⟩ := h
  exact ⟨h, ⟨o.os, o.tape, o.output, o.size, o.block, o.frozen⟩⟩

theorem xor_nonneg (a b : Int) (ha : 0 ≤ a) (ha2 : a < 2 ^ 62) (hb : 0 ≤ b) (hb2 : b < 2 ^ 62) : 0 ≤ bits .xor .i64 a b := by
  obtain ⟨x, rfl⟩ := Int.eq_ofNat_of_zero_le ha
  obtain ⟨y, rfl⟩ := Int.eq_ofNat_of_zero_le hb
  have hx : x ^^^ y < 2 ^ 62 := Nat.xor_lt_two_pow (by omega) (by omega)
  have h1 : (BitVec.ofInt 64 (x : Int)).toNat = x := by
    rw [BitVec.ofInt_natCast, BitVec.toNat_ofNat]; exact Nat.mod_eq_of_lt (by omega)
  have h2 : (BitVec.ofInt 64 (y : Int)).toNat = y := by
    rw [BitVec.ofInt_natCast, BitVec.toNat_ofNat]; exact Nat.mod_eq_of_lt (by omega)
  show 0 ≤ IntKind.i64.wrap ((BitVec.ofInt 64 (x : Int) ^^^ BitVec.ofInt 64 (y : Int)).toNat : Int)
  rw [BitVec.toNat_xor, h1, h2, IntKind.wrap_i64]
  omega

set_option maxHeartbeats 2000000 in
theorem pick (rb B p : Nat) (m : Int) (w : World) (h : Rd w rb B p) (hp : p ≤ 2 ^ 40) (hm : 1 ≤ m) (hm2 : m ≤ 2 ^ 40) :
    Calls Try.prog 76 #[.pointer (some ⟨rb, 0, none⟩), .int .i64 m] w fun e w' => (∃ r : Int, e = .returned (.int .i64 r) ∧ 0 ≤ r ∧ r < m) ∧ Rd w' rb B (p + 1) ∧ Only rb w w' := by
  have NX : Hid (Rd (w.setCell ⟨rb, 1, none⟩ (.int .i64 ((p : Int) + 1))) rb B (p + 1) ∧ Only rb w (w.setCell ⟨rb, 1, none⟩ (.int .i64 ((p : Int) + 1)))) := rd_next h
  obtain ⟨hrb, hBs, a, n, c, c0, c1, hfr, hn, hby, hne⟩ := h
  have f1 := hfr 1
  have HF : Hid (∀ o, w.frozen? ⟨rb, o, none⟩ = false) := hfr
  have HB : Hid (Bytes w B a n) := hby
  have HN : Hid (n = 0 ∨ ∀ x, a = some x → x.block ≠ rb) := hne
  clear hfr hby hne
  by_cases h0 : n = 0
  · have h0' : ((n : Int) == 0) = true := by simp [h0]
    clear h0
    go_enter Try.func76, Try.ntmps76
    go_wp2
    go_ret
    exact ⟨⟨0, rfl, by omega, by omega⟩, NX.out⟩
  · have h0' : ((n : Int) == 0) = false := by simp; omega
    by_cases hlt : p < n
    · rcases HB.out with h | ⟨b, off, rfl, hb, hz⟩
      · omega
      obtain ⟨z, hz1, hz2⟩ := hz p hlt
      clear hz
      have hbr : ¬ b = rb := by
        rcases HN.out with h | h
        · omega
        · exact h _ rfl
      have hbr2 : ¬ rb = b := fun e => hbr e.symm
      go_enter Try.func76, Try.ntmps76
      go_wp2
      go_ret
      refine ⟨⟨_, rfl, ?_, ?_⟩, NX.out⟩
      · exact Int.emod_nonneg _ (by omega)
      · exact Int.emod_lt_of_pos _ (by omega)
    · rcases HB.out with h | ⟨b, off, rfl, hb, hz⟩
      · omega
      obtain ⟨i1, e1, l1⟩ : ∃ i1 : Nat, (p : Int) % (n : Int) = i1 ∧ i1 < n := ⟨p % n, by simp, Nat.mod_lt _ (by omega)⟩
      obtain ⟨i2, e2, l2⟩ : ∃ i2 : Nat, ((p : Int) * 7 + 3) % (n : Int) = i2 ∧ i2 < n := ⟨(p * 7 + 3) % n, by simp, Nat.mod_lt _ (by omega)⟩
      obtain ⟨q, e3, l3⟩ : ∃ q : Nat, (p : Int) / (n : Int) = q ∧ q ≤ p := ⟨p / n, by simp, Nat.div_le_self _ _⟩
      obtain ⟨z1, hz1, hz2⟩ := hz i1 l1
      obtain ⟨z2, hz3, hz4⟩ := hz i2 l2
      clear hz
      have hbr : ¬ b = rb := by
        rcases HN.out with h | h
        · omega
        · exact h _ rfl
      have hbr2 : ¬ rb = b := fun e => hbr e.symm
      have hpos : (0 : Int) < (n : Int) := by omega
      have L1 : (i1 : Int) < (n : Int) := by omega
      have L2 : (i2 : Int) < (n : Int) := by omega
      go_enter Try.func76, Try.ntmps76
      go_wp2
      go_quiet (fail)
      go_wp2
      go_ret
      refine ⟨⟨_, rfl, ?_, ?_⟩, rd_drew NX.out _⟩
      · exact Int.tmod_nonneg _ (xor_nonneg _ _ (by omega) (by omega) (by omega) (by omega))
      · exact Int.tmod_lt_of_pos _ (by omega)

/-- A list of numbers in block lb. -/
def Nums (w : World) (lb : Nat) (zs : List Int) : Prop := lb < w.heap.size ∧ ∀ i, i < zs.length → w.cell? ⟨lb, i, none⟩ = some (.int .i64 (zs.getD i 0))

set_option maxHeartbeats 1000000 in
theorem num (rb B p lb c n : Nat) (zs : List Int) (w : World) (h : Rd w rb B p) (hp : p ≤ 2 ^ 40) (hz : Nums w lb zs) (hzl : zs.length = n) (h1 : 1 ≤ n) (h2 : n ≤ 2 ^ 40) (hl : lb ≠ rb) :
    Calls Try.prog 116 #[.pointer (some ⟨rb, 0, none⟩), .slice (some ⟨lb, 0, none⟩) n c] w fun e w' => (∃ r : Int, e = .returned (.int .i64 r) ∧ r ∈ zs) ∧ Rd w' rb B (p + 1) ∧ Only rb w w' := by
  have HR : Hid (Rd w rb B p) := h
  have HZ : Hid (Nums w lb zs) := hz
  have HL : Hid (zs.length = n) := hzl
  clear h hz hzl
  go_enter Try.func116, Try.ntmps116
  go_wp2_with fail
  refine (pick rb B p n w HR.out hp (by omega) (by omega)).mono ?_
  rintro e w1 ⟨⟨r, rfl, r0, r1⟩, hR, hO⟩
  obtain ⟨k, rfl⟩ := Int.eq_ofNat_of_zero_le r0
  have hk : k < n := by omega
  have hc : w1.cell? ⟨lb, k, none⟩ = some (.int .i64 (zs.getD k 0)) := by
    rw [hO.cell (p := ⟨lb, k, none⟩) hl]; exact HZ.out.2 k (by rw [HL.out]; exact hk)
  obtain ⟨v, hv⟩ : ∃ v, v = zs.getD k 0 := ⟨_, rfl⟩
  rw [← hv] at hc
  have HV : Hid (v = zs.getD k 0) := hv
  have HF : Hid (Rd w1 rb B (p + 1) ∧ Only rb w w1) := ⟨hR, hO⟩
  clear hv hR hO
  go_wp2
  go_ret
  refine ⟨⟨v, rfl, ?_⟩, HF.out⟩
  rw [HV.out]
  have := HL.out
  simp [List.getD, show k < zs.length by omega]

set_option maxHeartbeats 1000000 in
theorem l15Open (a : Option Addr) (n c : Nat) (w : World) (h : Bytes w w.heap.size a n) (hc : n ≤ c) (hm : c ≤ maxLen) :
    Calls Try.prog 63 #[.slice a n c] w fun e w' => e = .returned (.pointer (some ⟨w.heap.size, 0, none⟩)) ∧ Rd w' w.heap.size (w.heap.size + 1) 0 ∧ Below w.heap.size w w' := by
  unfold maxLen at hm
  have HB : Hid (Bytes w w.heap.size a n) := h
  have key : ∀ m, m ≤ n → m ≤ 2000 → ∀ c', Rd (w.alloc (.cells #[.slice a m c', .int .i64 0] 151)) w.heap.size (w.heap.size + 1) 0 := by
    intro m hm1 hm2 c'
    refine ⟨by omega, by rw [size_new]; omega, a, m, c', by rw [cell_heap (heap_new _ _)]; rfl, by rw [cell_heap (heap_new _ _)]; rfl, fun o => frozen_heap (heap_new _ _) o, hm2, ?_, ?_⟩
    · rcases HB.out with h | ⟨b, off, rfl, hb, hz⟩
      · exact .inl (by omega)
      · refine .inr ⟨b, off, rfl, by omega, fun i hi => ?_⟩
        obtain ⟨z, hz1, hz2⟩ := hz i (by omega)
        exact ⟨z, hz1, by rw [((Below.refl w.heap.size w).alloc (Nat.le_refl _) _).cell (p := ⟨b, off + i, none⟩) hb]; exact hz2⟩
    · rcases HB.out with h | ⟨b, off, rfl, hb, hz⟩
      · exact .inl (by omega)
      · right
        intro x hx
        injection hx with hx
        subst hx
        exact Nat.ne_of_lt hb
  have KEY : Hid (∀ m, m ≤ n → m ≤ 2000 → ∀ c', Rd (w.alloc (.cells #[.slice a m c', .int .i64 0] 151)) w.heap.size (w.heap.size + 1) 0) := key
  clear key h
  by_cases hn : n ≤ 2000
  · go_enter Try.func63, Try.ntmps63
    go_wp2
    go_ret
    exact ⟨rfl, KEY.out n (Nat.le_refl _) hn _, (Below.refl _ _).alloc (Nat.le_refl _) _⟩
  · go_enter Try.func63, Try.ntmps63
    go_wp2
    go_ret
    exact ⟨rfl, KEY.out 2000 (by omega) (by omega) _, (Below.refl _ _).alloc (Nat.le_refl _) _⟩
end Go.Proofs.Ytgcencilgpilaaa.Own

namespace Go.Proofs.Ytgcencilgpilaaa.Own
open Go.RowKit

theorem run_copy_fat {P : Program} (w : World) (dT sT ty elem : TypeId) (g o dLen dCap : Nat) (a : Addr) (sLen sCap sz : Nat) (cur : Array Value) (t : TypeId) (cs : List Value)
    (hu : P.underlying dT = some (.slice elem)) (hs : (P.info? elem).map (·.size) = some sz)
    (hg : w.heap[g]? = some (.cells cur t (0, 0))) (hn : cs.length = Nat.min sLen dLen * sz)
    (hsrc : ∀ j v, cs[j]? = some v → w.cell? (a.add j) = some v) (hfit : o + cs.length ≤ cur.size) (h1 : ∀ v ∈ cs, v.oneCell' = true) :
    (Builtin.copy_ #[dT, sT] ty #[.slice (some ⟨g, o, none⟩) dLen dCap, .slice (some a) sLen sCap]).run P w =
      .ok (goInt (Nat.min sLen dLen)) (w.setRow g (cur.toList.take o ++ cs ++ cur.toList.drop (o + cs.length)).toArray) := by
  have hl := run_loadCells_list (P := P) w a cs hsrc
  have hst := run_storeCells_at P g o t cs 0 cur w hg (by simpa using hfit) h1
  rw [hn] at hl
  cases hq : P.info? elem with
  | none => simp [hq] at hs
  | some i =>
    have hi : i.size = sz := by simpa [hq] using hs
    simp [Builtin.copy_, run_underlying hu, Builtin.lenOf, Builtin.firstCells, sizeOf, typeInfo, hq, hi, hl, hst]

theorem run_copy_zero {P : Program} (w : World) (dT sT ty elem : TypeId) (d a : Option Addr) (dLen dCap sLen sCap sz : Nat)
    (hu : P.underlying dT = some (.slice elem)) (hs : (P.info? elem).map (·.size) = some sz) (hn : Nat.min sLen dLen = 0) :
    (Builtin.copy_ #[dT, sT] ty #[.slice d dLen dCap, .slice a sLen sCap]).run P w = .ok (goInt 0) w := by
  cases hq : P.info? elem with
  | none => simp [hq] at hs
  | some i =>
    have hi : i.size = sz := by simpa [hq] using hs
    have hl : ∀ x, (loadCells x 0).run P w = .ok #[] w := fun x => by
      simpa using run_loadCells_list (P := P) w x [] (by simp)
    cases d <;> cases a <;> simp [Builtin.copy_, run_underlying hu, Builtin.lenOf, Builtin.firstCells, sizeOf, typeInfo, hq, hn, hl, storeCells]

theorem wpList_copy_fat {P : Program} {w : World} {ops : Array Oper} {rest : List Oper} {o : Oper} {a : Act} {Q : Exit → Act → World → Prop} (hgd : o.guard = none) (d s : Operand) (dT sT : TypeId)
    (ho : o.op = .call { callee := .builtin .copy, args := #[d, s], argTypes := #[dT, sT] }) (elem : TypeId) (sz : Nat) (hu : P.underlying dT = some (.slice elem)) (hsz : (P.info? elem).map (·.size) = some sz)
    (g off dLen dCap : Nat) (sp : Option Addr) (sLen sCap : Nat) (hd : a.eval d = .slice (some ⟨g, off, none⟩) dLen dCap) (hs : a.eval s = .slice sp sLen sCap)
    (cur : Array Value) (t : TypeId) (hg : w.heap[g]? = some (.cells cur t (0, 0))) (cs : List Value) (hn : cs.length = Nat.min sLen dLen * sz)
    (hsrc : Nat.min sLen dLen = 0 ∨ ∃ ad, sp = some ad ∧ ∀ j v, cs[j]? = some v → w.cell? (ad.add j) = some v) (hfit : off + cs.length ≤ cur.size) (h1 : ∀ v ∈ cs, v.oneCell' = true)
    (h : wpList P ops Q rest (a.put o.dst (goInt (Nat.min sLen dLen))) (w.setRow g (cur.toList.take off ++ cs ++ cur.toList.drop (off + cs.length)).toArray)) : wpList P ops Q (o :: rest) a w := by
  refine wpList_plain hgd fun K hK => ?_
  rcases hsrc with h0 | ⟨ad, rfl, hsrc⟩
  · have hcs : cs = [] := List.eq_nil_of_length_eq_zero (by rw [hn, h0]; simp)
    subst hcs
    have hrun := run_copy_zero (P := P) w dT sT o.type elem (some ⟨g, off, none⟩) sp dLen dCap sLen sCap sz hu hsz h0
    have e : w.setRow g (cur.toList.take off ++ [] ++ cur.toList.drop (off + ([] : List Value).length)).toArray = w := by
      simpa using setRow_self w g cur t (0, 0) hg
    rw [e, h0] at h
    unfold Oper.wp
    simp [execOp, ho, resolve, invoke, builtin, hd, hs, hrun, Result.andThen]
    exact hK _ _ h
  · have hrun := run_copy_fat (P := P) w dT sT o.type elem g off dLen dCap ad sLen sCap sz cur t cs hu hsz hg hn hsrc hfit h1
    unfold Oper.wp
    simp only [execOp, ho, resolve, invoke, builtin]
    simp only [List.append_assoc] at hrun h
    simp [hd, hs, hrun, Result.andThen]
    exact hK _ _ h

/-- The built-in copy as one step of a region that draws its order, elements of whatever size. -/
theorem step_copy_fat {P : Program} {ops : Array Oper} {o : Oper} {a : Act} {w : World} {K : Act → World → Prop} {Q : Exit → Act → World → Prop} {E : Prop} (hgd : o.guard = none) (d s : Operand) (dT sT : TypeId)
    (ho : o.op = .call { callee := .builtin .copy, args := #[d, s], argTypes := #[dT, sT] }) (elem : TypeId) (sz : Nat) (hu : P.underlying dT = some (.slice elem)) (hsz : (P.info? elem).map (·.size) = some sz)
    (g off dLen dCap : Nat) (sp : Option Addr) (sLen sCap : Nat) (hd : a.eval d = .slice (some ⟨g, off, none⟩) dLen dCap) (hs : a.eval s = .slice sp sLen sCap)
    (cur : List Value) (t : TypeId) (hg : w.heap[g]? = some (.cells cur.toArray t (0, 0))) (cs : List Value) (hn : cs.length = Nat.min sLen dLen * sz)
    (hpos : Nat.min sLen dLen = 0 ∨ ∃ ad, sp = some ad ∧ ∀ j v, cs[j]? = some v → w.cell? (ad.add j) = some v)
    (hfit : off + cs.length ≤ cur.length) (h1 : ∀ v ∈ cs, v.oneCell' = true) (B : Nat) (w0 : World) (hb : Below B w0 w) (hBg : B ≤ g)
    (h : ∀ w', Hid (w'.heap[g]? = some (.cells (splice cur off cs).toArray t (0, 0))) → Below B w0 w' → K (a.put o.dst (goInt (Nat.min sLen dLen))) w') :
    if Region.wanted o (yielded ops a.tmps) = true then Oper.wp P o a w K Q else E := by
  have hw : Region.wanted o (yielded ops a.tmps) = true := by simp [Region.wanted, hgd]
  rw [if_pos hw]
  rcases hpos with h0 | ⟨ad, rfl, hsrc⟩
  · have hcs : cs = [] := List.eq_nil_of_length_eq_zero (by rw [hn, h0]; simp)
    subst hcs
    have hrun := run_copy_zero (P := P) w dT sT o.type elem (some ⟨g, off, none⟩) sp dLen dCap sLen sCap sz hu hsz h0
    have h' := h w (show _ = _ by simpa [splice] using hg) hb
    rw [h0] at h'
    unfold Oper.wp
    simp [execOp, ho, resolve, invoke, builtin, hd, hs, hrun, Result.andThen]
    exact h'
  · have hrun := run_copy_fat (P := P) w dT sT o.type elem g off dLen dCap ad sLen sCap sz cur.toArray t cs hu hsz hg hn hsrc (by simpa using hfit) h1
    have h' := h _ (show _ = _ by simpa [splice] using setRow_heap w g _ _ t _ hg) (below_setRow hb hBg _)
    unfold Oper.wp
    simp only [execOp, ho, resolve, invoke, builtin]
    simp [hd, hs, hrun, Result.andThen]
    exact h'

theorem make_row {P : Program} {t e : TypeId} {z : Value} {size bytes : Nat} (ht : P.underlying t = some (.slice e)) (hi : (P.info? e).map (fun i => (i.zero, i.size, i.bytes)) = some (some z, size, bytes))
    (n : Nat) (hn : bytes * n ≤ 281474976710656) (h63 : n ≤ 2 ^ 50) (w : World) :
    (Instr.makeSlice t (.int .i64 n) (.int .i64 n)).run P w = .ok (.slice (some ⟨w.heap.size, 0, none⟩) n n) (w.alloc (.cells (madeCells z.cells (n * size)) e)) := by
  obtain ⟨i, h1, h2, h3, h4⟩ := info_parts hi
  have hb : (i.bytes : Int) * (n : Int) ≤ 281474976710656 := by
    have h : ((bytes * n : Nat) : Int) ≤ 281474976710656 := by omega
    rw [h4]
    rwa [Int.natCast_mul] at h
  have := run_make (P := P) w t e i z ht h1 h2 .i64 .i64 n n (by omega) (by omega) hb (by omega)
  rw [h3] at this
  simpa using this

theorem made_cell {z : Array Value} {n k : Nat} (hz : 0 < z.size) (h : k < n) (h1 : ∀ v ∈ z, v.oneCell' = true) : ∃ v, (madeCells z n)[k]? = some v ∧ v.oneCell' = true := by
  have hk : k % z.size < z.size := Nat.mod_lt _ hz
  refine ⟨z[k % z.size]'hk, ?_, h1 _ (by simp)⟩
  simp [madeCells, h, hk]
end Go.Proofs.Ytgcencilgpilaaa.Own

namespace Go.Proofs.Ytgcencilgpilaaa.Own
open Go.RowKit

def zeros8 : Array Value := #[.int .i64 0, .int .i64 0, .int .i64 0, .int .i64 0, .int .i64 0, .int .i64 0, .int .i64 0, .int .i64 0]

theorem mk4 (w : World) : (Instr.makeSlice 23 (.int .i64 4) (.int .i64 4)).run Try.prog w = .ok (.slice (some ⟨w.heap.size, 0, none⟩) 4 4) (w.alloc (.cells zeros8 38)) := by kernel_rfl
theorem szBox : (Try.prog.info? 38).map (·.size) = some 2 := by kernel_rfl

set_option maxHeartbeats 400000 in
theorem specOpen (w : World) : Calls Try.prog 98 #[] w fun e w' => e = .returned (.slice (some ⟨w.heap.size, 0, none⟩) 4 4) ∧ w' = w.alloc (.cells zeros8 38) := by
  have hmk := mk4
  go_enter Try.func98, Try.ntmps98
  go_wp2
  go_ret
  exact ⟨rfl, rfl⟩

def arr8 (x0 x1 x2 x3 x4 x5 x6 x7 : Int) : Array Value := #[.int .i64 x0, .int .i64 x1, .int .i64 x2, .int .i64 x3, .int .i64 x4, .int .i64 x5, .int .i64 x6, .int .i64 x7]

theorem copyAll (x0 x1 x2 x3 x4 x5 x6 x7 : Int) (w : World) :
    (Builtin.copy_ #[23, 23] 3 #[.slice (some ⟨w.heap.size + 1, 0, none⟩) 4 4, .slice (some ⟨w.heap.size, 0, none⟩) 4 4]).run Try.prog
      ((w.alloc (.cells #[.int .i64 x0, .int .i64 x1, .int .i64 x2, .int .i64 x3, .int .i64 x4, .int .i64 x5, .int .i64 x6, .int .i64 x7] 104)).alloc (.cells zeros8 38)) =
    .ok (.int .i64 4) (((w.alloc (.cells #[.int .i64 x0, .int .i64 x1, .int .i64 x2, .int .i64 x3, .int .i64 x4, .int .i64 x5, .int .i64 x6, .int .i64 x7] 104)).alloc (.cells zeros8 38)).setRow (w.heap.size + 1) (arr8 x0 x1 x2 x3 x4 x5 x6 x7)) := by
  refine (run_copy_fat (P := Try.prog) _ 23 23 3 38 (w.heap.size + 1) 0 4 4 ⟨w.heap.size, 0, none⟩ 4 4 2 zeros8 38 (arr8 x0 x1 x2 x3 x4 x5 x6 x7).toList Try.underlying23 szBox ?_ rfl ?_ (by simp [zeros8, arr8]) (by simp [arr8, Value.oneCell'])).trans ?_
  · exact heap_new2 _ _ _
  · intro j v h
    have e : (⟨w.heap.size, 0, none⟩ : Addr).add j = ⟨w.heap.size, j, none⟩ := by simp [Addr.add]; omega
    rw [e, cell_heap (heap_new1 _ _ _), ← h]
    simp [arr8]
  · simp [arr8, zeros8, goInt]

set_option maxHeartbeats 400000 in
theorem arrList (x0 x1 x2 x3 x4 x5 x6 x7 : Int) (w : World) : Calls Try.prog 65 #[.agg #[.int .i64 x0, .int .i64 x1, .int .i64 x2, .int .i64 x3, .int .i64 x4, .int .i64 x5, .int .i64 x6, .int .i64 x7]] w
    fun e w' => e = .returned (.slice (some ⟨w.heap.size + 1, 0, none⟩) 4 4) ∧ w'.heap[w.heap.size + 1]? = some (.cells (arr8 x0 x1 x2 x3 x4 x5 x6 x7) 38 (0, 0)) ∧ Below w.heap.size w w' ∧ w'.heap.size = w.heap.size + 2 := by
  have hmk := mk4
  have hcp := copyAll x0 x1 x2 x3 x4 x5 x6 x7 w
  go_enter Try.func65, Try.ntmps65
  go_wp2
  go_ret
  refine ⟨rfl, ?_, ?_, ?_⟩
  · rw [setRow_heap _ _ zeros8 _ 38 (0, 0)]
    exact heap_new2 _ _ _
  · exact below_setRow (((Below.refl _ _).alloc (Nat.le_refl _) _).alloc (by simp) _) (by omega) _
  · simp [World.setRow]

def zero4 : List (Int × Int) := [(0, 0), (0, 0), (0, 0), (0, 0)]

theorem zeros_at {w : World} {b : Nat} {t : TypeId} {f : Nat × Nat} (h : w.heap[b]? = some (.cells zeros8 t f)) : BoxAt w b 0 zero4 := by
  refine ⟨(Array.getElem?_eq_some_iff.1 h).1, fun i hi => ?_⟩
  rw [cell_heap h, cell_heap h]
  match i, hi with
  | 0, _ | 1, _ | 2, _ | 3, _ => simp [zeros8, zero4]

end Go.Proofs.Ytgcencilgpilaaa.Own

namespace Go.Proofs.Ytgcencilgpilaaa.Own
open Go.RowKit

theorem infoBox : (Try.prog.info? 38).map (fun i => (i.zero, i.size, i.bytes)) = some (some (.agg #[.int .i64 0, .int .i64 0]), 2, 16) := by kernel_rfl

set_option maxHeartbeats 400000 in
theorem szBoxS (a : Option Addr) (n c : Nat) (left : Int) (w : World) (hn : n ≤ maxLen) (h0 : 0 ≤ left) (h1 : left ≤ 2 ^ 60) :
    Calls Try.prog 32 #[.slice a n c, .int .i64 left] w fun e w' => e = .returned (.int .i64 (if left - n < 0 then -1 else left - n)) ∧ w' = w := by
  unfold maxLen at hn
  go_enter Try.func32, Try.ntmps32
  go_wp2
  all_goals
    go_ret
    exact ⟨rfl, rfl⟩

set_option maxHeartbeats 400000 in
theorem toBox (a b : Int) (w : World) : Calls Try.prog 93 #[.agg #[.int .i64 a, .int .i64 b]] w fun e w' => e = .returned (.agg #[.int .i64 a, .int .i64 b]) ∧ Below w.heap.size w w' := by
  go_enter Try.func93, Try.ntmps93
  go_wp2
  refine bodyPost_ret (v := .agg #[.int .i64 a, .int .i64 b]) (by simp [results, Try.results93, go_sem]) rfl ⟨rfl, ?_⟩
  exact ((((Below.refl _ _).alloc (Nat.le_refl _) _).alloc (by simp) _).alloc (by simp; omega) _)

/-- A row of n boxes of one's own. -/
def Row (w : World) (b n : Nat) : Prop := ∃ C, w.heap[b]? = some (.cells C 38 (0, 0)) ∧ C.size = n * 2 ∧ ∀ v ∈ C, v.oneCell' = true

theorem Row.setCell {w : World} {b n : Nat} (h : Row w b n) (o : Nat) (v : Value) (hv : v.oneCell' = true) : Row (w.setCell ⟨b, o, none⟩ v) b n := by
  obtain ⟨C, h1, h2, h3⟩ := h
  refine ⟨C.setIfInBounds o v, ?_, by simpa using h2, ?_⟩
  · simp [World.setCell, Array.getElem?_modify, h1]
  · intro u hu
    rcases Array.mem_or_eq_of_mem_setIfInBounds hu with h | h
    · exact h3 u h
    · rw [h]; exact hv

theorem Row.cell {w : World} {b n : Nat} (h : Row w b n) (o : Nat) (ho : o < n * 2) : ∃ v, w.cell? ⟨b, o, none⟩ = some v ∧ v.oneCell' = true := by
  obtain ⟨C, h1, h2, h3⟩ := h
  rw [cell_heap h1]
  exact ⟨C[o]'(by omega), by simp, h3 _ (by simp)⟩

theorem Row.frozen {w : World} {b n : Nat} (h : Row w b n) (o : Nat) : w.frozen? ⟨b, o, none⟩ = false := by
  obtain ⟨C, h1, _⟩ := h
  exact frozen_heap h1 o

theorem Row.lt {w : World} {b n : Nat} (h : Row w b n) : b < w.heap.size := by
  obtain ⟨C, h1, _⟩ := h
  exact (Array.getElem?_eq_some_iff.1 h1).1

theorem Row.below {w w' : World} {b n B : Nat} (h : Row w b n) (hb : Below B w w') (hB : b < B) : Row w' b n := by
  obtain ⟨C, h1, h2⟩ := h
  exact ⟨C, by rw [hb.block _ hB]; exact h1, h2⟩

theorem Row.made (w : World) (n : Nat) : Row (w.alloc (.cells (madeCells (Value.agg #[.int .i64 0, .int .i64 0]).cells (n * 2)) 38)) w.heap.size n := by
  refine ⟨_, heap_new _ _, size_madeCells _ _, ?_⟩
  intro v hv
  obtain ⟨k, hk, rfl⟩ := Array.getElem_of_mem hv
  rw [size_madeCells] at hk
  obtain ⟨v, h1, h2⟩ := made_cell (z := (Value.agg #[.int .i64 0, .int .i64 0]).cells) (n := n * 2) (k := k) (by decide) hk (by simp [Value.cells, Value.oneCell'])
  rw [Array.getElem?_eq_getElem (by simpa [size_madeCells] using hk)] at h1
  injection h1 with h1
  rw [h1]; exact h2

set_option maxHeartbeats 1000000 in
theorem toBoxS (a : Option Addr) (c : Nat) (xs : List (Int × Int)) (w : World) (h : Sl w a xs) (hn : xs.length ≤ 2 ^ 40) :
    Calls Try.prog 34 #[.slice a xs.length c] w fun e w' => e = .returned (.slice (some ⟨w.heap.size, 0, none⟩) xs.length xs.length) ∧ BoxAt w' w.heap.size 0 xs ∧ Row w' w.heap.size xs.length ∧ Below w.heap.size w w' := by
  have H1 : Hid (Sl w a xs) := h
  clear h
  have hmk := make_row (P := Try.prog) Try.underlying23 infoBox xs.length (by omega) (by omega)
  go_enter Try.func34, Try.ntmps34
  go_wp2
  clear hmk
  go_loopw [4] (fun i wr => ∃ k : Nat, k ≤ xs.length ∧ i = .int .i64 k ∧ BoxAt wr w.heap.size 0 (xs.take k) ∧ Row wr w.heap.size xs.length ∧ Below w.heap.size w wr) (fun i _ => xs.length - (intOf i).toNat)
  case atStart => exact ⟨0, Nat.zero_le _, rfl, ⟨by simp, by simp⟩, Row.made w _, (Below.refl _ _).alloc (Nat.le_refl _) _⟩
  case round =>
    obtain ⟨k, hk, rfl, hat, hrow, hB⟩ := hrel
    by_cases hlt : k < xs.length
    · rcases H1.out with h | ⟨b1, o1, rfl, h1⟩
      · subst h; simp at hlt
      have H1' : Hid (BoxAt w b1 o1 xs) := h1
      clear h1
      obtain ⟨p, hp⟩ : ∃ p, p = xs.getD k (0, 0) := ⟨_, rfl⟩
      have ca := (H1'.out.2 k hlt).1
      have cb := (H1'.out.2 k hlt).2
      rw [← hB.cell H1'.out.1, ← hp] at ca cb
      have HP : Hid (p = xs.getD k (0, 0)) := hp
      have HA : Hid (BoxAt wr w.heap.size 0 (xs.take k)) := hat
      have HR : Hid (Row wr w.heap.size xs.length) := hrow
      clear hp hat hrow
      obtain ⟨p1, p2⟩ := p
      go_wp2_with fail
      refine (toBox p1 p2 _).mono ?_
      rintro e w1 ⟨rfl, hb1⟩
      have R1 := HR.out.below hb1 HR.out.lt
      have HR1 : Hid (Row w1 w.heap.size xs.length) := R1
      obtain ⟨v1, c1, _⟩ := R1.cell (k * 2) (by omega)
      obtain ⟨v2, c2, _⟩ := R1.cell (k * 2 + 1) (by omega)
      have f1 := R1.frozen (k * 2)
      have f2 := R1.frozen (k * 2 + 1)
      have HA1 : Hid (BoxAt w1 w.heap.size 0 (xs.take k)) := HA.out.below hb1
      have HB1 : Hid (Below w.heap.size w w1) := hB.trans (hb1.mono hB.size)
      clear R1 hb1 ca cb
      go_wp2
      go_roundw
      case rel =>
        refine ⟨k + 1, by omega, by go_num, ?_, (HR1.out.setCell _ _ rfl).setCell _ _ rfl, (HB1.out.setCell (Nat.le_refl _) _).setCell (Nat.le_refl _) _⟩
        refine ⟨by simpa [World.setCell] using HR1.out.lt, fun i hi => ?_⟩
        have hi' : i < k + 1 := by simp at hi; omega
        rw [Nat.zero_add]
        by_cases e : i = k
        · subst e
          have e2 : (xs.take (i + 1)).getD i (0, 0) = (p1, p2) := by
            rw [HP.out]; simp [List.getD]
          rw [e2]
          exact ⟨by rw [setCell_cell_other _ _ _ _ _ (by omega)]; exact setCell_cell_same _ _ _ _ _ c1, setCell_cell_same _ _ _ _ v2 (by rw [setCell_cell_other _ _ _ _ _ (by omega)]; exact c2)⟩
        · have := HA1.out.2 i (by simp; omega)
          rw [Nat.zero_add] at this
          have e2 : (xs.take (k + 1)).getD i (0, 0) = (xs.take k).getD i (0, 0) := by
            simp [List.getD, show i < k by omega, show i < k + 1 by omega]
          rw [e2, setCell_cell_other _ _ _ _ _ (by omega), setCell_cell_other _ _ _ _ _ (by omega), setCell_cell_other _ _ _ _ _ (by omega), setCell_cell_other _ _ _ _ _ (by omega)]
          exact this
      case measure => simp [intOf]; omega
    · go_wp2
      go_ret
      have : k = xs.length := by omega
      subst this
      refine ⟨rfl, ?_, hrow, hB⟩
      rw [List.take_length] at hat
      exact hat
end Go.Proofs.Ytgcencilgpilaaa.Own

namespace Go.Proofs.Ytgcencilgpilaaa.Own
open Go.RowKit

theorem nums_new (w : World) (zs : List Int) (cs : Array Value) (t : TypeId) (h : cs = (zs.map (Value.int .i64)).toArray) : Nums (w.alloc (.cells cs t)) w.heap.size zs := by
  subst h
  refine ⟨by rw [size_new]; omega, fun i hi => ?_⟩
  rw [cell_heap (heap_new _ _)]
  simp [List.getD, hi]

theorem Row.only {w w' : World} {b n c : Nat} (h : Row w b n) (ho : Only c w w') (hc : b ≠ c) : Row w' b n := by
  obtain ⟨C, h1, h2⟩ := h
  exact ⟨C, by rw [ho.block _ hc]; exact h1, h2⟩
theorem Row.alloc {w : World} {b n : Nat} (h : Row w b n) (o : Obj) : Row (w.alloc o) b n := h.below ((Below.refl _ _).alloc (Nat.le_refl _) o) h.lt
theorem BoxAt.alloc {w : World} {b off : Nat} {xs : List (Int × Int)} (h : BoxAt w b off xs) (o : Obj) : BoxAt (w.alloc o) b off xs := h.below ((Below.refl _ _).alloc (Nat.le_refl _) o)

theorem BoxAt.snoc {w : World} {b : Nat} {xs : List (Int × Int)} {k : Nat} (h : BoxAt w b 0 xs) (hk : xs.length = k) (p q : Int) {u v : Value} (hu : w.cell? ⟨b, k * 2, none⟩ = some u) (hv : w.cell? ⟨b, k * 2 + 1, none⟩ = some v) :
    BoxAt ((w.setCell ⟨b, k * 2, none⟩ (.int .i64 p)).setCell ⟨b, k * 2 + 1, none⟩ (.int .i64 q)) b 0 (xs ++ [(p, q)]) := by
  refine ⟨by simpa [World.setCell] using h.1, fun i hi => ?_⟩
  simp at hi
  rw [Nat.zero_add]
  by_cases e : i = k
  · subst e
    have e2 : (xs ++ [(p, q)]).getD i (0, 0) = (p, q) := by simp [List.getD, ← hk]
    rw [e2]
    exact ⟨by rw [setCell_cell_other _ _ _ _ _ (by omega)]; exact setCell_cell_same _ _ _ _ _ hu, setCell_cell_same _ _ _ _ v (by rw [setCell_cell_other _ _ _ _ _ (by omega)]; exact hv)⟩
  · have := h.2 i (by omega)
    rw [Nat.zero_add] at this
    have e2 : (xs ++ [(p, q)]).getD i (0, 0) = xs.getD i (0, 0) := by
      simp [List.getD, List.getElem?_append_left (show i < xs.length by omega)]
    rw [e2, setCell_cell_other _ _ _ _ _ (by omega), setCell_cell_other _ _ _ _ _ (by omega), setCell_cell_other _ _ _ _ _ (by omega), setCell_cell_other _ _ _ _ _ (by omega)]
    exact this

theorem getD_set (xs : List (Int × Int)) (i j : Nat) (v : Int × Int) (hi : i < xs.length) : (xs.set i v).getD j (0, 0) = if i = j then v else xs.getD j (0, 0) := by
  simp only [List.getD_eq_getElem?_getD, List.getElem?_set]
  by_cases e : i = j
  · simp [e, show j < xs.length by omega]
  · simp [e]

theorem BoxAt.setVer {w : World} {b off : Nat} {xs : List (Int × Int)} (h : BoxAt w b off xs) (i : Nat) (hi : i < xs.length) (v : Int) : BoxAt (w.setCell ⟨b, off + i * 2, none⟩ (.int .i64 v)) b off (xs.set i (v, (xs.getD i (0, 0)).2)) := by
  refine ⟨by simpa [World.setCell] using h.1, fun j hj => ?_⟩
  rw [List.length_set] at hj
  rw [getD_set _ _ _ _ hi]
  by_cases e : i = j
  · subst e
    rw [if_pos rfl]
    exact ⟨setCell_cell_same _ _ _ _ _ (h.2 i hi).1, by rw [setCell_cell_other _ _ _ _ _ (by omega)]; exact (h.2 i hi).2⟩
  · rw [if_neg e, setCell_cell_other _ _ _ _ _ (by omega), setCell_cell_other _ _ _ _ _ (by omega)]
    exact h.2 j hj

theorem BoxAt.setVal {w : World} {b off : Nat} {xs : List (Int × Int)} (h : BoxAt w b off xs) (i : Nat) (hi : i < xs.length) (v : Int) : BoxAt (w.setCell ⟨b, off + i * 2 + 1, none⟩ (.int .i64 v)) b off (xs.set i ((xs.getD i (0, 0)).1, v)) := by
  refine ⟨by simpa [World.setCell] using h.1, fun j hj => ?_⟩
  rw [List.length_set] at hj
  rw [getD_set _ _ _ _ hi]
  by_cases e : i = j
  · subst e
    rw [if_pos rfl]
    exact ⟨by rw [setCell_cell_other _ _ _ _ _ (by omega)]; exact (h.2 i hi).1, setCell_cell_same _ _ _ _ _ (h.2 i hi).2⟩
  · rw [if_neg e, setCell_cell_other _ _ _ _ _ (by omega), setCell_cell_other _ _ _ _ _ (by omega)]
    exact h.2 j hj

theorem BoxAt.take {w : World} {b off : Nat} {xs : List (Int × Int)} (h : BoxAt w b off xs) (n : Nat) (hn : n ≤ xs.length) : BoxAt w b off (xs.take n) := by
  refine ⟨h.1, fun i hi => ?_⟩
  rw [List.length_take] at hi
  have e : (xs.take n).getD i (0, 0) = xs.getD i (0, 0) := by simp [List.getD, show i < n by omega]
  rw [e]; exact h.2 i (by omega)

/-- Every number is small. -/
def Sm (xs : List (Int × Int)) : Prop := ∀ k, k < xs.length → (-2000000 ≤ (xs.getD k (0, 0)).1 ∧ (xs.getD k (0, 0)).1 ≤ 2000000) ∧ (-2000000 ≤ (xs.getD k (0, 0)).2 ∧ (xs.getD k (0, 0)).2 ≤ 2000000)
theorem Sm.nil : Sm [] := fun k hk => by simp at hk
theorem Sm.snoc {xs : List (Int × Int)} (h : Sm xs) {p q : Int} (hp : -2000000 ≤ p ∧ p ≤ 2000000) (hq : -2000000 ≤ q ∧ q ≤ 2000000) : Sm (xs ++ [(p, q)]) := by
  intro k hk
  simp at hk
  by_cases e : k < xs.length
  · have e2 : (xs ++ [(p, q)]).getD k (0, 0) = xs.getD k (0, 0) := by simp [List.getD, List.getElem?_append_left e]
    rw [e2]; exact h k e
  · have e2 : (xs ++ [(p, q)]).getD k (0, 0) = (p, q) := by
      have : k = xs.length := by omega
      simp [List.getD, this]
    rw [e2]; exact ⟨hp, hq⟩
theorem Sm.set {xs : List (Int × Int)} (h : Sm xs) (i : Nat) (hi : i < xs.length) {v : Int × Int} (h1 : -2000000 ≤ v.1 ∧ v.1 ≤ 2000000) (h2 : -2000000 ≤ v.2 ∧ v.2 ≤ 2000000) : Sm (xs.set i v) := by
  intro k hk
  rw [List.length_set] at hk
  rw [getD_set _ _ _ _ hi]
  by_cases e : i = k
  · rw [if_pos e]; exact ⟨h1, h2⟩
  · rw [if_neg e]; exact h k hk
theorem Sm.take {xs : List (Int × Int)} (h : Sm xs) (n : Nat) (hn : n ≤ xs.length) : Sm (xs.take n) := by
  intro i hi
  rw [List.length_take] at hi
  have e : (xs.take n).getD i (0, 0) = xs.getD i (0, 0) := by simp [List.getD, show i < n by omega]
  rw [e]; exact h i (by omega)
theorem nine_small {v : Int} (h : v ∈ ([0, 1, 2, 5, -3, 7, 100, 1000000, -1000000] : List Int)) : -2000000 ≤ v ∧ v ≤ 2000000 := by simp at h; omega
theorem two_small {v : Int} (h : v ∈ ([-1, 1000001] : List Int)) : -2000000 ≤ v ∧ v ≤ 2000000 := by simp at h; omega
theorem two_small' {v : Int} (h : v ∈ ([1000001, -1000001] : List Int)) : -2000000 ≤ v ∧ v ≤ 2000000 := by simp at h; omega

set_option maxHeartbeats 2000000 in
theorem l1Boxes (rb B p : Nat) (w : World) (h : Rd w rb B p) (hp : p ≤ 2 ^ 30) :
    Calls Try.prog 79 #[.pointer (some ⟨rb, 0, none⟩)] w fun e w' => ∃ xs : List (Int × Int), (xs.length = 3 ∨ xs.length = 4) ∧ e = .returned (.slice (some ⟨w.heap.size, 0, none⟩) xs.length 4) ∧ BoxAt w' w.heap.size 0 xs ∧ Sm xs ∧ Row w' w.heap.size 4 ∧ (∃ p', p' ≤ p + 20 ∧ Rd w' rb B p') ∧ Bar rb w w' := by
  have HR : Hid (Rd w rb B p) := h
  clear h
  go_enter Try.func79, Try.ntmps79
  go_wp2_with fail
  refine (specOpen w).mono ?_
  rintro e w1 ⟨rfl, hw1⟩
  have R1 : Hid (Row w1 w.heap.size 4) := by
    show Row _ _ _
    rw [hw1]; exact ⟨_, heap_new _ _, rfl, by simp [zeros8, Value.oneCell']⟩
  have D1 : Hid (Rd w1 rb B p) := by
    show Rd _ _ _ _
    rw [hw1]; exact HR.out.alloc _
  have B1 : Hid (Bar rb w w1) := by
    show Bar _ _ _
    rw [hw1]; exact (Bar.refl _ _).alloc _
  clear hw1
  go_wp2_with fail
  go_loopw [4] (fun i wr => ∃ k : Nat, k ≤ 4 ∧ i = .int .i64 k ∧ (∃ xs : List (Int × Int), xs.length = k ∧ BoxAt wr w.heap.size 0 xs ∧ Sm xs) ∧ Row wr w.heap.size 4 ∧ Rd wr rb B (p + 2 * k) ∧ Bar rb w wr) (fun i _ => 4 - (intOf i).toNat)
  case atStart => exact ⟨0, Nat.zero_le _, rfl, ⟨[], rfl, ⟨R1.out.lt, by simp⟩, Sm.nil⟩, R1.out, D1.out, B1.out⟩
  case round =>
    obtain ⟨k, hk, rfl, hx, hrow, hrd, hbar⟩ := hrel
    have HX : Hid (∃ xs : List (Int × Int), xs.length = k ∧ BoxAt wr w.heap.size 0 xs ∧ Sm xs) := hx
    have HRow : Hid (Row wr w.heap.size 4) := hrow
    have HRd : Hid (Rd wr rb B (p + 2 * k)) := hrd
    have HBar : Hid (Bar rb w wr) := hbar
    clear hx hrow hrd hbar
    by_cases hlt : k < 4
    · go_wp2_with fail
      refine (pick rb B (p + 2 * k) 5 wr HRd.out (by omega) (by omega) (by omega)).mono ?_
      rintro e w2 ⟨⟨r, rfl, r0, r1⟩, hR, hO⟩
      have HRr : Hid (-2000000 ≤ r ∧ r ≤ 2000000) := ⟨by omega, by omega⟩
      have hrb : rb < w.heap.size := Nat.lt_of_lt_of_le HR.out.1 HR.out.2.1
      have hob : w.heap.size ≠ rb := by omega
      have HO : Hid (Only rb wr w2) := hO
      have HRd2 : Hid (Rd w2 rb B (p + 2 * k + 1)) := hR
      clear hR hO
      go_wp2_with fail
      refine (num rb B (p + 2 * k + 1) w2.heap.size 9 9 [0, 1, 2, 5, -3, 7, 100, 1000000, -1000000] _ (HRd2.out.alloc _) (by omega) (nums_new _ _ _ _ rfl) rfl (by omega) (by omega) (by have := HO.out.size; have := HBar.out.size; omega)).mono ?_
      rintro e w3 ⟨⟨v, rfl, hv⟩, hR3, hO3⟩
      have HV : Hid (v ∈ ([0, 1, 2, 5, -3, 7, 100, 1000000, -1000000] : List Int)) := hv
      clear hv
      have HRow3 : Row w3 w.heap.size 4 := ((HRow.out.only HO.out hob).alloc _).only hO3 hob
      have HRow3' : Hid (Row w3 w.heap.size 4) := HRow3
      have HX3 : Hid (∃ xs : List (Int × Int), xs.length = k ∧ BoxAt w3 w.heap.size 0 xs ∧ Sm xs) := by
        obtain ⟨xs, h1, h2, h3⟩ := HX.out
        exact ⟨xs, h1, ((h2.only HO.out hob).alloc _).only hO3 hob, h3⟩
      have HBar3 : Hid (Bar rb w w3) := ((HBar.out.trans (Bar.ofOnly HO.out)).alloc _).trans (Bar.ofOnly hO3)
      have HRd3 : Hid (Rd w3 rb B (p + 2 * k + 1 + 1)) := hR3
      obtain ⟨v1, c1, _⟩ := HRow3.cell (k * 2) (by omega)
      obtain ⟨v2, c2, _⟩ := HRow3.cell (k * 2 + 1) (by omega)
      have f1 := HRow3.frozen (k * 2)
      have f2 := HRow3.frozen (k * 2 + 1)
      have C1 : Hid (w3.cell? ⟨w.heap.size, k * 2, none⟩ = some v1) := c1
      have C2 : Hid (w3.cell? ⟨w.heap.size, k * 2 + 1, none⟩ = some v2) := c2
      clear hR3 hO3 HRow3
      go_wp2
      go_roundw
      case rel =>
        refine ⟨k + 1, by omega, by go_num, ?_, (HRow3'.out.setCell _ _ rfl).setCell _ _ rfl, ?_, (HBar3.out.setCell (Nat.le_refl _) _).setCell (Nat.le_refl _) _⟩
        · obtain ⟨xs, h1, h2, h3⟩ := HX3.out
          exact ⟨xs ++ [(r, v)], by simp [h1], h2.snoc h1 r v C1.out C2.out, h3.snoc HRr.out (nine_small HV.out)⟩
        · have := (HRd3.out.setCell (q := ⟨w.heap.size, k * 2, none⟩) HR.out.2.1 (.int .i64 r)).setCell (q := ⟨w.heap.size, k * 2 + 1, none⟩) HR.out.2.1 (.int .i64 v)
          exact this
      case measure => simp [intOf]; omega
    · have hk4 : k = 4 := by omega
      subst hk4
      have hrb : rb < w.heap.size := Nat.lt_of_lt_of_le HR.out.1 HR.out.2.1
      have hob : w.heap.size ≠ rb := by omega
      go_wp2_with fail
      refine (pick rb B (p + 2 * 4) 30 wr HRd.out (by omega) (by omega) (by omega)).mono ?_
      rintro e w2 ⟨⟨r, rfl, r0, r1⟩, hR, hO⟩
      have HRd2 : Hid (Rd w2 rb B (p + 2 * 4 + 1)) := hR
      have HRow2 : Hid (Row w2 w.heap.size 4) := HRow.out.only hO hob
      have HX2 : Hid (∃ xs : List (Int × Int), xs.length = 4 ∧ BoxAt w2 w.heap.size 0 xs ∧ Sm xs) := by
        obtain ⟨xs, h1, h2, h3⟩ := HX.out
        exact ⟨xs, h1, h2.only hO hob, h3⟩
      have HBar2 : Hid (Bar rb w w2) := HBar.out.trans (Bar.ofOnly hO)
      clear hR hO
      by_cases t0 : r = 0
      · have t0' : (r == 0) = true := by simp [t0]
        clear t0
        go_wp2
        go_ret
        obtain ⟨xs, h1, h2, hsm⟩ := HX2.out
        exact ⟨xs.take 3, .inl (by simp [h1]), by simp [h1], h2.take 3 (by omega), hsm.take 3 (by omega), HRow2.out, ⟨_, by omega, HRd2.out⟩, HBar2.out⟩
      have t0' : (r == 0) = false := by simp [t0]
      clear t0
      by_cases t1 : r = 1
      · have t1' : (r == 1) = true := by simp [t1]
        clear t1
        go_wp2_with fail
        refine (pick rb B (p + 2 * 4 + 1) 4 w2 HRd2.out (by omega) (by omega) (by omega)).mono ?_
        rintro e w3 ⟨⟨j, rfl, j0, j1⟩, hR, hO⟩
        obtain ⟨j, rfl⟩ := Int.eq_ofNat_of_zero_le j0
        have HO : Hid (Only rb w2 w3) := hO
        have HRd3 : Hid (Rd w3 rb B (p + 2 * 4 + 1 + 1)) := hR
        clear hR hO
        go_wp2_with fail
        refine (num rb B (p + 2 * 4 + 1 + 1) w3.heap.size 2 2 [-1, 1000001] _ (HRd3.out.alloc _) (by omega) (nums_new _ _ _ _ rfl) rfl (by omega) (by omega) (by have := HO.out.size; have := HBar2.out.size; omega)).mono ?_
        rintro e w4 ⟨⟨v, rfl, hv⟩, hR4, hO4⟩
        have HV : Hid (-2000000 ≤ v ∧ v ≤ 2000000) := two_small hv
        clear hv
        have HRow4 : Hid (Row w4 w.heap.size 4) := ((HRow2.out.only HO.out hob).alloc _).only hO4 hob
        have HX4 : Hid (∃ xs : List (Int × Int), xs.length = 4 ∧ BoxAt w4 w.heap.size 0 xs ∧ Sm xs) := by
          obtain ⟨xs, h1, h2, h3⟩ := HX2.out
          exact ⟨xs, h1, ((h2.only HO.out hob).alloc _).only hO4 hob, h3⟩
        have HBar4 : Hid (Bar rb w w4) := ((HBar2.out.trans (Bar.ofOnly HO.out)).alloc _).trans (Bar.ofOnly hO4)
        have HRd4 : Hid (Rd w4 rb B (p + 2 * 4 + 1 + 1 + 1)) := hR4
        obtain ⟨v1, c1, _⟩ := HRow4.out.cell (j * 2) (by omega)
        have f1 := HRow4.out.frozen (j * 2)
        clear hR4 hO4
        go_wp2
        go_ret
        obtain ⟨xs, h1, h2, hsm⟩ := HX4.out
        have h3 := h2.setVer j (by omega) v
        rw [Nat.zero_add] at h3
        have h4 := HRd4.out.setCell (q := ⟨w.heap.size, j * 2, none⟩) HR.out.2.1 (.int .i64 v)
        exact ⟨_, .inr (by rw [List.length_set]; exact h1), by rw [List.length_set, h1]; rfl, h3, hsm.set j (by omega) HV.out (hsm j (by omega)).2, HRow4.out.setCell _ _ rfl, ⟨_, by omega, h4⟩, HBar4.out.setCell (Nat.le_refl _) _⟩
      have t1' : (r == 1) = false := by simp [t1]
      clear t1
      by_cases t2 : r = 2
      · have t2' : (r == 2) = true := by simp [t2]
        clear t2
        go_wp2_with fail
        refine (pick rb B (p + 2 * 4 + 1) 4 w2 HRd2.out (by omega) (by omega) (by omega)).mono ?_
        rintro e w3 ⟨⟨j, rfl, j0, j1⟩, hR, hO⟩
        obtain ⟨j, rfl⟩ := Int.eq_ofNat_of_zero_le j0
        have HO : Hid (Only rb w2 w3) := hO
        have HRd3 : Hid (Rd w3 rb B (p + 2 * 4 + 1 + 1)) := hR
        clear hR hO
        go_wp2_with fail
        refine (num rb B (p + 2 * 4 + 1 + 1) w3.heap.size 2 2 [1000001, -1000001] _ (HRd3.out.alloc _) (by omega) (nums_new _ _ _ _ rfl) rfl (by omega) (by omega) (by have := HO.out.size; have := HBar2.out.size; omega)).mono ?_
        rintro e w4 ⟨⟨v, rfl, hv⟩, hR4, hO4⟩
        have HV : Hid (-2000000 ≤ v ∧ v ≤ 2000000) := two_small' hv
        clear hv
        have HRow4 : Hid (Row w4 w.heap.size 4) := ((HRow2.out.only HO.out hob).alloc _).only hO4 hob
        have HX4 : Hid (∃ xs : List (Int × Int), xs.length = 4 ∧ BoxAt w4 w.heap.size 0 xs ∧ Sm xs) := by
          obtain ⟨xs, h1, h2, h3⟩ := HX2.out
          exact ⟨xs, h1, ((h2.only HO.out hob).alloc _).only hO4 hob, h3⟩
        have HBar4 : Hid (Bar rb w w4) := ((HBar2.out.trans (Bar.ofOnly HO.out)).alloc _).trans (Bar.ofOnly hO4)
        have HRd4 : Hid (Rd w4 rb B (p + 2 * 4 + 1 + 1 + 1)) := hR4
        obtain ⟨v1, c1, _⟩ := HRow4.out.cell (j * 2 + 1) (by omega)
        have f1 := HRow4.out.frozen (j * 2 + 1)
        clear hR4 hO4
        go_wp2
        go_ret
        obtain ⟨xs, h1, h2, hsm⟩ := HX4.out
        have h3 := h2.setVal j (by omega) v
        rw [Nat.zero_add] at h3
        have h4 := HRd4.out.setCell (q := ⟨w.heap.size, j * 2 + 1, none⟩) HR.out.2.1 (.int .i64 v)
        exact ⟨_, .inr (by rw [List.length_set]; exact h1), by rw [List.length_set, h1]; rfl, h3, hsm.set j (by omega) (hsm j (by omega)).1 HV.out, HRow4.out.setCell _ _ rfl, ⟨_, by omega, h4⟩, HBar4.out.setCell (Nat.le_refl _) _⟩
      have t2' : (r == 2) = false := by simp [t2]
      clear t2
      go_wp2
      go_ret
      obtain ⟨xs, h1, h2, hsm⟩ := HX2.out
      exact ⟨xs, .inr h1, by rw [h1]; rfl, h2, hsm, HRow2.out, ⟨_, by omega, HRd2.out⟩, HBar2.out⟩

end Go.Proofs.Ytgcencilgpilaaa.Own

namespace Go.Proofs.Ytgcencilgpilaaa.Own
open Go.RowKit

/-- An instruction: Kind, A, B, N. -/
abbrev Q4 := Int × Int × Int × Int
def q0 : Q4 := (0, 0, 0, 0)

/-- Rows of four numbers in memory. -/
def At4 (w : World) (b off : Nat) (xs : List Q4) : Prop :=
  b < w.heap.size ∧ ∀ i, i < xs.length → w.cell? ⟨b, off + i * 4, none⟩ = some (.int .i64 (xs.getD i q0).1) ∧ w.cell? ⟨b, off + i * 4 + 1, none⟩ = some (.int .i64 (xs.getD i q0).2.1) ∧ w.cell? ⟨b, off + i * 4 + 2, none⟩ = some (.int .i64 (xs.getD i q0).2.2.1) ∧ w.cell? ⟨b, off + i * 4 + 3, none⟩ = some (.int .i64 (xs.getD i q0).2.2.2)

/-- What a slice of such rows leads to. -/
def Sl4 (w : World) (a : Option Addr) (xs : List Q4) : Prop := xs = [] ∨ ∃ b off, a = some ⟨b, off, none⟩ ∧ At4 w b off xs

theorem At4.congr {w w' : World} {b off : Nat} {xs : List Q4} (h : At4 w b off xs) (hs : b < w'.heap.size) (hc : ∀ o, w'.cell? ⟨b, o, none⟩ = w.cell? ⟨b, o, none⟩) : At4 w' b off xs :=
  ⟨hs, fun i hi => by rw [hc, hc, hc, hc]; exact h.2 i hi⟩

theorem At4.below {w w' : World} {b off : Nat} {xs : List Q4} (h : At4 w b off xs) (hb : Below w.heap.size w w') : At4 w' b off xs :=
  h.congr (Nat.lt_of_lt_of_le h.1 hb.size) fun o => hb.cell (p := ⟨b, o, none⟩) h.1

theorem At4.belowAt {w w' : World} {b off B : Nat} {xs : List Q4} (h : At4 w b off xs) (hb : Below B w w') (hB : b < B) : At4 w' b off xs :=
  h.congr (Nat.lt_of_lt_of_le h.1 hb.size) fun o => hb.cell (p := ⟨b, o, none⟩) hB

theorem Sl4.below {w w' : World} {a : Option Addr} {xs : List Q4} (h : Sl4 w a xs) (hb : Below w.heap.size w w') : Sl4 w' a xs := by
  rcases h with h | ⟨b, off, rfl, h⟩
  · exact .inl h
  · exact .inr ⟨b, off, rfl, h.below hb⟩

theorem At4.only {w w' : World} {b off c : Nat} {xs : List Q4} (h : At4 w b off xs) (hb : Only c w w') (hc : b ≠ c) : At4 w' b off xs :=
  h.congr (by rw [hb.size]; exact h.1) fun o => hb.cell (p := ⟨b, o, none⟩) hc

/-- The numbers k, k + 1, .. laid into n rows of four. -/
def marks4 (k : Int) (n : Nat) : List Q4 := (List.range n).map fun (i : Nat) => (k + 4 * (i : Int), k + 4 * (i : Int) + 1, k + 4 * (i : Int) + 1 + 1, k + 4 * (i : Int) + 1 + 1 + 1)

theorem marks4_length (k : Int) (n : Nat) : (marks4 k n).length = n := by simp [marks4]

theorem marks4_getD (k : Int) (n i : Nat) (h : i < n) : (marks4 k n).getD i q0 = (k + 4 * (i : Int), k + 4 * (i : Int) + 1, k + 4 * (i : Int) + 1 + 1, k + 4 * (i : Int) + 1 + 1 + 1) := by
  simp [marks4, List.getD, h]

theorem take_succ_eqG {α : Type} {xs ys : List α} {k : Nat} (d : α) (hx : k < xs.length) (hy : k < ys.length) : (xs.take (k + 1) = ys.take (k + 1)) ↔ (xs.take k = ys.take k ∧ xs.getD k d = ys.getD k d) := by
  rw [List.take_succ_eq_append_getElem hx, List.take_succ_eq_append_getElem hy]
  constructor
  · intro h
    have := List.append_inj' h rfl
    refine ⟨this.1, ?_⟩
    have h2 := this.2
    simp at h2
    simp [List.getD, hx, hy, h2]
  · rintro ⟨h, h2⟩
    simp [List.getD, hx, hy] at h2
    rw [h, h2]

theorem ne_of_getDG {α : Type} [BEq α] [LawfulBEq α] {xs ys : List α} {k : Nat} (d : α) (h : xs.getD k d ≠ ys.getD k d) : (xs == ys) = false := by
  simp only [beq_eq_false_iff_ne, ne_eq]
  intro e; exact h (by rw [e])

/-- The equality of two rows, number by number. -/
def eqQ (p q : Q4) : Bool := p.1 == q.1 && p.2.1 == q.2.1 && p.2.2.1 == q.2.2.1 && p.2.2.2 == q.2.2.2
theorem eqQ_iff (p q : Q4) : eqQ p q = true ↔ p = q := by
  obtain ⟨a, b, c, d⟩ := p
  obtain ⟨a', b', c', d'⟩ := q
  simp [eqQ, and_assoc]
theorem eqQ_false (p q : Q4) : eqQ p q = false ↔ p ≠ q := by
  rw [← Bool.not_eq_true, eqQ_iff]

/-- Numbers in memory, one cell each. -/
def IntAt (w : World) (b off : Nat) (xs : List Int) : Prop :=
  b < w.heap.size ∧ ∀ i, i < xs.length → w.cell? ⟨b, off + i, none⟩ = some (.int .i64 (xs.getD i 0))

def SlI (w : World) (a : Option Addr) (xs : List Int) : Prop := xs = [] ∨ ∃ b off, a = some ⟨b, off, none⟩ ∧ IntAt w b off xs

theorem IntAt.congr {w w' : World} {b off : Nat} {xs : List Int} (h : IntAt w b off xs) (hs : b < w'.heap.size) (hc : ∀ o, w'.cell? ⟨b, o, none⟩ = w.cell? ⟨b, o, none⟩) : IntAt w' b off xs :=
  ⟨hs, fun i hi => by rw [hc]; exact h.2 i hi⟩
theorem IntAt.below {w w' : World} {b off : Nat} {xs : List Int} (h : IntAt w b off xs) (hb : Below w.heap.size w w') : IntAt w' b off xs :=
  h.congr (Nat.lt_of_lt_of_le h.1 hb.size) fun o => hb.cell (p := ⟨b, o, none⟩) h.1
theorem IntAt.belowAt {w w' : World} {b off B : Nat} {xs : List Int} (h : IntAt w b off xs) (hb : Below B w w') (hB : b < B) : IntAt w' b off xs :=
  h.congr (Nat.lt_of_lt_of_le h.1 hb.size) fun o => hb.cell (p := ⟨b, o, none⟩) hB
theorem SlI.below {w w' : World} {a : Option Addr} {xs : List Int} (h : SlI w a xs) (hb : Below w.heap.size w w') : SlI w' a xs := by
  rcases h with h | ⟨b, off, rfl, h⟩
  · exact .inl h
  · exact .inr ⟨b, off, rfl, h.below hb⟩
theorem IntAt.only {w w' : World} {b off c : Nat} {xs : List Int} (h : IntAt w b off xs) (hb : Only c w w') (hc : b ≠ c) : IntAt w' b off xs :=
  h.congr (by rw [hb.size]; exact h.1) fun o => hb.cell (p := ⟨b, o, none⟩) hc

def marks1 (k : Int) (n : Nat) : List Int := (List.range n).map fun (i : Nat) => k + (i : Int)
theorem marks1_length (k : Int) (n : Nat) : (marks1 k n).length = n := by simp [marks1]
theorem marks1_getD (k : Int) (n i : Nat) (h : i < n) : (marks1 k n).getD i 0 = k + (i : Int) := by
  simp [marks1, List.getD, h]


/-- Four cells in a row, put one behind the other. -/
theorem put4 {w : World} {b o : Nat} {x0 x1 x2 x3 : Value} (v0 v1 v2 v3 : Value) (c0 : w.cell? ⟨b, o, none⟩ = some x0) (c1 : w.cell? ⟨b, o + 1, none⟩ = some x1) (c2 : w.cell? ⟨b, o + 2, none⟩ = some x2) (c3 : w.cell? ⟨b, o + 3, none⟩ = some x3) :
    (((((w.setCell ⟨b, o, none⟩ v0).setCell ⟨b, o + 1, none⟩ v1).setCell ⟨b, o + 2, none⟩ v2).setCell ⟨b, o + 3, none⟩ v3).cell? ⟨b, o, none⟩ = some v0) ∧
    (((((w.setCell ⟨b, o, none⟩ v0).setCell ⟨b, o + 1, none⟩ v1).setCell ⟨b, o + 2, none⟩ v2).setCell ⟨b, o + 3, none⟩ v3).cell? ⟨b, o + 1, none⟩ = some v1) ∧
    (((((w.setCell ⟨b, o, none⟩ v0).setCell ⟨b, o + 1, none⟩ v1).setCell ⟨b, o + 2, none⟩ v2).setCell ⟨b, o + 3, none⟩ v3).cell? ⟨b, o + 2, none⟩ = some v2) ∧
    (((((w.setCell ⟨b, o, none⟩ v0).setCell ⟨b, o + 1, none⟩ v1).setCell ⟨b, o + 2, none⟩ v2).setCell ⟨b, o + 3, none⟩ v3).cell? ⟨b, o + 3, none⟩ = some v3) ∧
    ∀ p, (p < o ∨ o + 3 < p) → ((((w.setCell ⟨b, o, none⟩ v0).setCell ⟨b, o + 1, none⟩ v1).setCell ⟨b, o + 2, none⟩ v2).setCell ⟨b, o + 3, none⟩ v3).cell? ⟨b, p, none⟩ = w.cell? ⟨b, p, none⟩ := by
  have s := fun (W : World) (p q : Nat) (v : Value) (h : p ≠ q) => setCell_cell_other W b p q v h
  refine ⟨?_, ?_, ?_, ?_, fun p hp => ?_⟩
  · rw [s _ (o + 3) o _ (by omega), s _ (o + 2) o _ (by omega), s _ (o + 1) o _ (by omega)]
    exact setCell_cell_same _ _ _ _ x0 c0
  · rw [s _ (o + 3) (o + 1) _ (by omega), s _ (o + 2) (o + 1) _ (by omega)]
    exact setCell_cell_same _ _ _ _ x1 (by rw [s _ o (o + 1) _ (by omega)]; exact c1)
  · rw [s _ (o + 3) (o + 2) _ (by omega)]
    exact setCell_cell_same _ _ _ _ x2 (by rw [s _ (o + 1) (o + 2) _ (by omega), s _ o (o + 2) _ (by omega)]; exact c2)
  · exact setCell_cell_same _ _ _ _ x3 (by rw [s _ (o + 2) (o + 3) _ (by omega), s _ (o + 1) (o + 3) _ (by omega), s _ o (o + 3) _ (by omega)]; exact c3)
  · rw [s _ (o + 3) p _ (by omega), s _ (o + 2) p _ (by omega), s _ (o + 1) p _ (by omega), s _ o p _ (by omega)]

end Go.Proofs.Ytgcencilgpilaaa.Own

namespace Go.Proofs.Ytgcencilgpilaaa.Own
open Go.RowKit
set_option linter.unusedVariables false
set_option linter.unusedSimpArgs false

def flat4 (xs : List Q4) : List Value := xs.flatMap fun p => [.int .i64 p.1, .int .i64 p.2.1, .int .i64 p.2.2.1, .int .i64 p.2.2.2]
theorem flat4_length (xs : List Q4) : (flat4 xs).length = xs.length * 4 := by
  induction xs with
  | nil => rfl
  | cons p r ih => simp [flat4] at ih ⊢; omega
theorem flat4_snoc (xs : List Q4) (p : Q4) : flat4 (xs ++ [p]) = flat4 xs ++ [.int .i64 p.1, .int .i64 p.2.1, .int .i64 p.2.2.1, .int .i64 p.2.2.2] := by simp [flat4]
theorem flat4_get (xs : List Q4) (i : Nat) (h : i < xs.length) : (flat4 xs)[i * 4]? = some (.int .i64 (xs.getD i q0).1) ∧ (flat4 xs)[i * 4 + 1]? = some (.int .i64 (xs.getD i q0).2.1) ∧ (flat4 xs)[i * 4 + 2]? = some (.int .i64 (xs.getD i q0).2.2.1) ∧ (flat4 xs)[i * 4 + 3]? = some (.int .i64 (xs.getD i q0).2.2.2) := by
  induction xs generalizing i with
  | nil => simp at h
  | cons p r ih =>
    cases i with
    | zero => simp [flat4]
    | succ i =>
      have := ih i (by simpa using h)
      simp only [flat4, List.flatMap_cons] at this ⊢
      rw [show (i + 1) * 4 = i * 4 + 4 by omega, show i * 4 + 4 + 1 = i * 4 + 1 + 4 by omega, show i * 4 + 4 + 2 = i * 4 + 2 + 4 by omega, show i * 4 + 4 + 3 = i * 4 + 3 + 4 by omega]
      simpa using this

/-- v is a slice of the instructions xs, its memory from B on its own. -/
def OwnQ (w : World) (B : Nat) (v : Value) (xs : List Q4) : Prop := w.ownsRow B 156 4 v xs.length (flat4 xs)

theorem OwnQ.keep {w w' : World} {B : Nat} {v : Value} {xs : List Q4} (h : OwnQ w B v xs) (hb : Below w.heap.size w w') : OwnQ w' B v xs := by
  obtain ⟨h1, h2⟩ := h
  refine ⟨h1, ?_⟩
  rcases h2 with h2 | ⟨g, cap, cur, hv, hg, hh, r⟩
  · exact .inl h2
  · exact .inr ⟨g, cap, cur, hv, hg, by rw [hb.block g (Array.getElem?_eq_some_iff.1 hh).1]; exact hh, r⟩
theorem OwnQ.bar {w w' : World} {B rb : Nat} {v : Value} {xs : List Q4} (h : OwnQ w B v xs) (hb : Bar rb w w') (hr : w.heap.size ≤ rb) : OwnQ w' B v xs := by
  obtain ⟨h1, h2⟩ := h
  refine ⟨h1, ?_⟩
  rcases h2 with h2 | ⟨g, cap, cur, hv, hg, hh, r⟩
  · exact .inl h2
  · have := (Array.getElem?_eq_some_iff.1 hh).1
    exact .inr ⟨g, cap, cur, hv, hg, by rw [hb.block g this (by omega)]; exact hh, r⟩
theorem OwnQ.lower {w : World} {B B' : Nat} {v : Value} {xs : List Q4} (h : OwnQ w B v xs) (hB : B' ≤ B) : OwnQ w B' v xs := by
  obtain ⟨h1, h2⟩ := h
  refine ⟨h1, ?_⟩
  rcases h2 with h2 | ⟨g, cap, cur, hv, hg, r⟩
  · exact .inl h2
  · exact .inr ⟨g, cap, cur, hv, Nat.le_trans hB hg, r⟩
theorem OwnQ.open {w : World} {B : Nat} {v : Value} {xs : List Q4} (h : OwnQ w B v xs) : ∃ a cap, v = .slice a xs.length cap ∧ Sl4 w a xs ∧ xs.length ≤ cap := by
  obtain ⟨h1, h2⟩ := h
  rcases h2 with ⟨hv, h0⟩ | ⟨g, cap, cur, hv, hg, hh, hmc, hml, hsz, htk⟩
  · refine ⟨none, 0, by rw [hv, h0], .inl (List.eq_nil_of_length_eq_zero h0), by omega⟩
  · refine ⟨some ⟨g, 0, none⟩, cap, hv, .inr ⟨g, 0, rfl, (Array.getElem?_eq_some_iff.1 hh).1, fun i hi => ?_⟩, hmc⟩
    have e := flat4_get xs i hi
    rw [← htk, List.getElem?_take_of_lt (by omega), List.getElem?_take_of_lt (by omega), List.getElem?_take_of_lt (by omega), List.getElem?_take_of_lt (by omega)] at e
    rw [cell_heap hh, cell_heap hh, cell_heap hh, cell_heap hh, Nat.zero_add]
    simpa using e

theorem four_new (w : World) (a b c d : Value) : ∀ j x, [a, b, c, d][j]? = some x → (w.alloc (.cells #[a, b, c, d] 156)).cell? ((⟨w.heap.size, 0, none⟩ : Addr).add j) = some x := by
  intro j x hj
  match j, hj with
  | 0, hj => simp at hj; subst hj; simp [Addr.add]
  | 1, hj => simp at hj; subst hj; simp [Addr.add]
  | 2, hj => simp at hj; subst hj; simp [Addr.add]
  | 3, hj => simp at hj; subst hj; simp [Addr.add]

theorem infoIns5 : (Try.prog.info? 156).map (fun i => (i.zero, i.size, i.bytes)) = some (some (.agg #[.int .i64 0, .int .i64 0, .int .i64 0, .int .i64 0]), 4, 32) := by kernel_rfl

theorem getD_set4 (xs : List Q4) (i j : Nat) (v : Q4) (hi : i < xs.length) : (xs.set i v).getD j q0 = if i = j then v else xs.getD j q0 := by
  simp only [List.getD_eq_getElem?_getD, List.getElem?_set]
  by_cases e : i = j
  · simp [e, show j < xs.length by omega]
  · simp [e]

/-- Of the blocks that were there none but rb has turned, and the row's own one is not rb. -/
theorem OwnQ.bar2 {w w' : World} {B rb : Nat} {v : Value} {xs : List Q4} (h : OwnQ w B v xs) (hb : Bar rb w w') (hr : rb < B) : OwnQ w' B v xs := by
  obtain ⟨h1, h2⟩ := h
  refine ⟨h1, ?_⟩
  rcases h2 with h2 | ⟨g, cap, cur, hv, hg, hh, r⟩
  · exact .inl h2
  · have := (Array.getElem?_eq_some_iff.1 hh).1
    exact .inr ⟨g, cap, cur, hv, hg, by rw [hb.block g this (by omega)]; exact hh, r⟩

theorem flat4_ext {xs : List Q4} {l : List Value} (hl : l.length = xs.length * 4) (h : ∀ i, i < xs.length → l[i * 4]? = some (.int .i64 (xs.getD i q0).1) ∧ l[i * 4 + 1]? = some (.int .i64 (xs.getD i q0).2.1) ∧ l[i * 4 + 2]? = some (.int .i64 (xs.getD i q0).2.2.1) ∧ l[i * 4 + 3]? = some (.int .i64 (xs.getD i q0).2.2.2)) : l = flat4 xs := by
  apply List.ext_getElem?
  intro j
  by_cases hj : j < xs.length * 4
  · have hk : j / 4 < xs.length := by omega
    have e1 := h (j / 4) hk
    have e2 := flat4_get xs (j / 4) hk
    have m : j % 4 = 0 ∨ j % 4 = 1 ∨ j % 4 = 2 ∨ j % 4 = 3 := by omega
    rcases m with m | m | m | m
    · rw [show j = j / 4 * 4 by omega, e1.1, e2.1]
    · rw [show j = j / 4 * 4 + 1 by omega, e1.2.1, e2.2.1]
    · rw [show j = j / 4 * 4 + 2 by omega, e1.2.2.1, e2.2.2.1]
    · rw [show j = j / 4 * 4 + 3 by omega, e1.2.2.2, e2.2.2.2]
  · rw [List.getElem?_eq_none (by omega), List.getElem?_eq_none (by rw [flat4_length]; omega)]

/-- A number of an instruction of such a slice, turned. -/
theorem OwnQ.set {w : World} {B g cap : Nat} {xs : List Q4} (h : OwnQ w B (.slice (some ⟨g, 0, none⟩) xs.length cap) xs) (i f : Nat) (hi : i < xs.length) (hf : f < 4) (n : Int) (q : Q4)
    (hq : q = (if f = 0 then n else (xs.getD i q0).1, if f = 1 then n else (xs.getD i q0).2.1, if f = 2 then n else (xs.getD i q0).2.2.1, if f = 3 then n else (xs.getD i q0).2.2.2)) :
    OwnQ (w.setCell ⟨g, i * 4 + f, none⟩ (.int .i64 n)) B (.slice (some ⟨g, 0, none⟩) xs.length cap) (xs.set i q) := by
  obtain ⟨h1, h2⟩ := h
  rcases h2 with ⟨hv, h0⟩ | ⟨g', cap', cur, hv, hg, hh, hmc, hml, hsz, htk⟩
  · omega
  injection hv with e1 e2 e3
  injection e1 with e1
  injection e1 with e1
  subst e1 e3
  have hl4 := flat4_length xs
  refine ⟨by rw [flat4_length], .inr ⟨g, cap, cur.setIfInBounds (i * 4 + f) (.int .i64 n), by rw [List.length_set], hg, ?_, by rw [List.length_set]; exact hmc, hml, by simpa using hsz, ?_⟩⟩
  · simp [World.setCell, Array.getElem?_modify, hh]
  · rw [List.length_set]
    apply flat4_ext
    · rw [List.length_set, List.length_take]
      simp
      omega
    · intro j hj
      rw [List.length_set] at hj
      have e := flat4_get xs j hj
      rw [← htk] at e
      rw [List.getElem?_take_of_lt (by omega), List.getElem?_take_of_lt (by omega), List.getElem?_take_of_lt (by omega), List.getElem?_take_of_lt (by omega)] at e
      simp only [Array.getElem?_toList] at e
      rw [List.getElem?_take_of_lt (by omega), List.getElem?_take_of_lt (by omega), List.getElem?_take_of_lt (by omega), List.getElem?_take_of_lt (by omega), getD_set4 _ _ _ _ hi]
      simp only [Array.getElem?_toList, Array.getElem?_setIfInBounds]
      by_cases hij : i = j
      · subst hij
        rw [if_pos rfl, hq]
        have b0 : i * 4 + f < cur.size := by omega
        match f, hf with
        | 0, _ => simp [e, b0, show ¬ (i * 4 = i * 4 + 1) by omega]; omega
        | 1, _ => simp [e, b0]
        | 2, _ => simp [e, b0]
        | 3, _ => simp [e, b0]
      · rw [if_neg hij, if_neg (by omega), if_neg (by omega), if_neg (by omega), if_neg (by omega)]
        exact e

/-- Every number of the instructions is small. -/
def SmQ (q : Q4) : Prop := (-2000000 ≤ q.1 ∧ q.1 ≤ 2000000) ∧ (-2000000 ≤ q.2.1 ∧ q.2.1 ≤ 2000000) ∧ (-2000000 ≤ q.2.2.1 ∧ q.2.2.1 ≤ 2000000) ∧ (-2000000 ≤ q.2.2.2 ∧ q.2.2.2 ≤ 2000000)
def Sm4 (xs : List Q4) : Prop := ∀ k, k < xs.length → SmQ (xs.getD k q0)
theorem Sm4.nil : Sm4 [] := fun k hk => by simp at hk
theorem Sm4.snoc {xs : List Q4} (h : Sm4 xs) {q : Q4} (hq : SmQ q) : Sm4 (xs ++ [q]) := by
  intro k hk
  simp at hk
  by_cases e : k < xs.length
  · have e2 : (xs ++ [q]).getD k q0 = xs.getD k q0 := by simp [List.getD, List.getElem?_append_left e]
    rw [e2]; exact h k e
  · have e2 : (xs ++ [q]).getD k q0 = q := by
      have : k = xs.length := by omega
      simp [List.getD, this]
    rw [e2]; exact hq
theorem Sm4.set {xs : List Q4} (h : Sm4 xs) (i : Nat) (hi : i < xs.length) {q : Q4} (hq : SmQ q) : Sm4 (xs.set i q) := by
  intro k hk
  rw [List.length_set] at hk
  rw [getD_set4 _ _ _ _ hi]
  by_cases e : i = k
  · rw [if_pos e]; exact hq
  · rw [if_neg e]; exact h k hk
end Go.Proofs.Ytgcencilgpilaaa.Own

namespace Go.Proofs.Ytgcencilgpilaaa.Own
open Go.RowKit

def C4 (w : World) (b : Nat) (x0 x1 x2 x3 : Value) : Prop := b < w.heap.size ∧ w.cell? ⟨b, 0, none⟩ = some x0 ∧ w.cell? ⟨b, 1, none⟩ = some x1 ∧ w.cell? ⟨b, 2, none⟩ = some x2 ∧ w.cell? ⟨b, 3, none⟩ = some x3
theorem C4.below {w w' : World} {b : Nat} {x0 x1 x2 x3 : Value} (h : C4 w b x0 x1 x2 x3) (hb : Below w.heap.size w w') : C4 w' b x0 x1 x2 x3 := by
  have e : ∀ o, w'.cell? ⟨b, o, none⟩ = w.cell? ⟨b, o, none⟩ := fun o => hb.cell (p := ⟨b, o, none⟩) h.1
  refine ⟨Nat.lt_of_lt_of_le h.1 hb.size, ?_⟩
  rw [e, e, e, e]; exact h.2
theorem C4.new (w : World) (x0 x1 x2 x3 : Value) (t : TypeId) : C4 (w.alloc (.cells #[x0, x1, x2, x3] t)) w.heap.size x0 x1 x2 x3 := by
  refine ⟨by rw [size_new]; omega, ?_⟩
  rw [cell_heap (heap_new _ _), cell_heap (heap_new _ _), cell_heap (heap_new _ _), cell_heap (heap_new _ _)]
  exact ⟨rfl, rfl, rfl, rfl⟩
theorem C4.alloc {w : World} {b : Nat} {x0 x1 x2 x3 : Value} (h : C4 w b x0 x1 x2 x3) (o : Obj) : C4 (w.alloc o) b x0 x1 x2 x3 := h.below ((Below.refl _ _).alloc (Nat.le_refl _) _)
/-- What lay below a mark, and the block at it. -/
theorem below_new (w : World) (o : Obj) : Below w.heap.size w (w.alloc o) := (Below.refl _ _).alloc (Nat.le_refl _) _
end Go.Proofs.Ytgcencilgpilaaa.Own

namespace Go.Proofs.Ytgcencilgpilaaa.Own
open Go.RowKit
set_option linter.unusedVariables false
set_option linter.unusedSimpArgs false

theorem nums_newQ (w : World) (zs : List Int) (cs : Array Value) (t : TypeId) (h : cs = (zs.map (Value.int .i64)).toArray) : Nums (w.alloc (.cells cs t)) w.heap.size zs := by
  subst h
  refine ⟨by rw [size_new]; omega, fun i hi => ?_⟩
  rw [cell_heap (heap_new _ _)]
  simp [List.getD, hi]

/-- Four cells that may be written. -/
def F4 (w : World) (b : Nat) (x0 x1 x2 x3 : Value) : Prop := C4 w b x0 x1 x2 x3 ∧ ∀ o, w.frozen? ⟨b, o, none⟩ = false
theorem F4.new (w : World) (x0 x1 x2 x3 : Value) (t : TypeId) : F4 (w.alloc (.cells #[x0, x1, x2, x3] t)) w.heap.size x0 x1 x2 x3 := ⟨C4.new _ _ _ _ _ _, fun o => frozen_heap (heap_new _ _) o⟩
theorem F4.block {w w' : World} {b : Nat} {x0 x1 x2 x3 : Value} (h : F4 w b x0 x1 x2 x3) (hs : w.heap.size ≤ w'.heap.size) (hb : w'.heap[b]? = w.heap[b]?) : F4 w' b x0 x1 x2 x3 := by
  have e : ∀ o, w'.cell? ⟨b, o, none⟩ = w.cell? ⟨b, o, none⟩ := fun o => World.cell?_of_block (w := w) (a := ⟨b, o, none⟩) hb
  refine ⟨⟨Nat.lt_of_lt_of_le h.1.1 hs, ?_⟩, fun o => by rw [World.frozen?_of_block (w := w) (a := ⟨b, o, none⟩) hb]; exact h.2 o⟩
  rw [e, e, e, e]; exact h.1.2
theorem F4.only {w w' : World} {b c : Nat} {x0 x1 x2 x3 : Value} (h : F4 w b x0 x1 x2 x3) (ho : Only c w w') (hc : b ≠ c) : F4 w' b x0 x1 x2 x3 := h.block (Nat.le_of_eq ho.size.symm) (ho.block b hc)
theorem F4.alloc {w : World} {b : Nat} {x0 x1 x2 x3 : Value} (h : F4 w b x0 x1 x2 x3) (o : Obj) : F4 (w.alloc o) b x0 x1 x2 x3 := h.block (by rw [size_new]; omega) (heap_old w o b h.1.1)

theorem F4.far {w : World} {b c o : Nat} {x0 x1 x2 x3 : Value} (h : F4 w b x0 x1 x2 x3) (hc : b ≠ c) (v : Value) : F4 (w.setCell ⟨c, o, none⟩ v) b x0 x1 x2 x3 := h.only ((Only.refl c w).setCell _) hc
theorem F4.set1 {w : World} {b : Nat} {x0 x1 x2 x3 : Value} (h : F4 w b x0 x1 x2 x3) (v : Value) : F4 (w.setCell ⟨b, 1, none⟩ v) b x0 v x2 x3 :=
  ⟨⟨by simpa [World.setCell] using h.1.1, by rw [setCell_cell_other _ _ _ _ _ (by omega)]; exact h.1.2.1, setCell_cell_same _ _ _ _ _ h.1.2.2.1, by rw [setCell_cell_other _ _ _ _ _ (by omega)]; exact h.1.2.2.2.1, by rw [setCell_cell_other _ _ _ _ _ (by omega)]; exact h.1.2.2.2.2⟩, fun o => by simpa using h.2 o⟩
theorem F4.set2 {w : World} {b : Nat} {x0 x1 x2 x3 : Value} (h : F4 w b x0 x1 x2 x3) (v : Value) : F4 (w.setCell ⟨b, 2, none⟩ v) b x0 x1 v x3 :=
  ⟨⟨by simpa [World.setCell] using h.1.1, by rw [setCell_cell_other _ _ _ _ _ (by omega)]; exact h.1.2.1, by rw [setCell_cell_other _ _ _ _ _ (by omega)]; exact h.1.2.2.1, setCell_cell_same _ _ _ _ _ h.1.2.2.2.1, by rw [setCell_cell_other _ _ _ _ _ (by omega)]; exact h.1.2.2.2.2⟩, fun o => by simpa using h.2 o⟩

theorem smq {k a b n : Int} (h1 : -2000000 ≤ k ∧ k ≤ 2000000) (h2 : -2000000 ≤ a ∧ a ≤ 2000000) (h3 : -2000000 ≤ b ∧ b ≤ 2000000) (h4 : -2000000 ≤ n ∧ n ≤ 2000000) : SmQ (k, a, b, n) := ⟨h1, h2, h3, h4⟩

theorem six_small {v : Int} (h : v ∈ ([0, 1, 5, -2, 100, 1000000] : List Int)) : -2000000 ≤ v ∧ v ≤ 2000000 := by simp at h; omega
theorem ten_kinds {v : Int} (h : v ∈ ([1, 1, 2, 2, 3, 4, 4, 5, 6, 7] : List Int)) : 1 ≤ v ∧ v ≤ 7 := by simp at h; omega

set_option maxRecDepth 100000 in
set_option maxHeartbeats 4000000 in
theorem l2Any (rb B p : Nat) (w : World) (h : Rd w rb B p) (hp : p ≤ 2 ^ 30) :
    Calls Try.prog 121 #[.pointer (some ⟨rb, 0, none⟩)] w fun e w' => (∃ k a b n : Int, e = .returned (.agg #[.int .i64 k, .int .i64 a, .int .i64 b, .int .i64 n]) ∧ SmQ (k, a, b, n)) ∧ (∃ p', p' ≤ p + 10 ∧ Rd w' rb B p') ∧ Bar rb w w' := by
  have HR : Hid (Rd w rb B p) := h
  have hrb : rb < w.heap.size := Nat.lt_of_lt_of_le h.1 h.2.1
  have HBs : Hid (B ≤ w.heap.size) := h.2.1
  clear h
  have R0 : Hid (F4 (w.alloc (.cells #[.int .i64 0, .int .i64 0, .int .i64 0, .int .i64 0] 156)) w.heap.size (.int .i64 0) (.int .i64 0) (.int .i64 0) (.int .i64 0)) := F4.new _ _ _ _ _ _
  go_enter Try.func121, Try.ntmps121
  go_wp2_with fail
  refine (num rb B p (w.heap.size + 1) 10 10 [1, 1, 2, 2, 3, 4, 4, 5, 6, 7] _ ((HR.out.alloc _).alloc _) (by omega) (by have := nums_newQ (w.alloc (.cells #[.int .i64 0, .int .i64 0, .int .i64 0, .int .i64 0] 156)) [1, 1, 2, 2, 3, 4, 4, 5, 6, 7] _ 3 rfl; rw [size_new] at this; exact this) rfl (by omega) (by omega) (by omega)).mono ?_
  rintro e w1 ⟨⟨k, rfl, hk⟩, hR, hO⟩
  have HK : Hid (1 ≤ k ∧ k ≤ 7) := ten_kinds hk
  have R1 : Hid (F4 w1 w.heap.size (.int .i64 0) (.int .i64 0) (.int .i64 0) (.int .i64 0)) := (R0.out.alloc _).only hO (by omega)
  have D1 : Hid (Rd w1 rb B (p + 1)) := hR
  have B1 : Hid (Bar rb w w1) := (((Bar.refl rb w).alloc _).alloc _).trans (Bar.ofOnly hO)
  clear hk hR hO
  go_wp2_with fail
  refine (pick rb B (p + 1) 3 w1 D1.out (by omega) (by omega) (by omega)).mono ?_
  rintro e w2 ⟨⟨a, rfl, a0, a1⟩, hR, hO⟩
  have R2 : Hid (F4 w2 w.heap.size (.int .i64 0) (.int .i64 0) (.int .i64 0) (.int .i64 0)) := R1.out.only hO (by omega)
  have D2 : Hid (Rd w2 rb B (p + 1 + 1)) := hR
  have B2 : Hid (Bar rb w w2) := B1.out.trans (Bar.ofOnly hO)
  have HA : Hid (0 ≤ a ∧ a < 3) := ⟨a0, a1⟩
  clear hR hO a0 a1
  go_wp2_with fail
  refine (pick rb B (p + 1 + 1) 3 w2 D2.out (by omega) (by omega) (by omega)).mono ?_
  rintro e w3 ⟨⟨b, rfl, b0, b1⟩, hR, hO⟩
  obtain ⟨X, hX⟩ : ∃ X, X = w3.alloc (.cells #[.int .i64 k, .int .i64 a, .int .i64 b, .int .i64 0] 156) := ⟨_, rfl⟩
  have R3 : Hid (F4 X w.heap.size (.int .i64 0) (.int .i64 0) (.int .i64 0) (.int .i64 0)) := by show F4 _ _ _ _ _ _; rw [hX]; exact (R2.out.only hO (by omega)).alloc _
  have I3 : Hid (F4 X w3.heap.size (.int .i64 k) (.int .i64 a) (.int .i64 b) (.int .i64 0)) := by show F4 _ _ _ _ _ _; rw [hX]; exact F4.new _ _ _ _ _ _
  have D3 : Hid (Rd X rb B (p + 1 + 1 + 1)) := by show Rd _ _ _ _; rw [hX]; exact hR.alloc _
  have B3 : Hid (Bar rb w X) := by show Bar _ _ _; rw [hX]; exact (B2.out.trans (Bar.ofOnly hO)).alloc _
  have S3 : Hid (w.heap.size < w3.heap.size) := by
    show _ < _
    have h1 := R2.out.1.1
    have h2 := hO.size
    omega
  have HBb : Hid (0 ≤ b ∧ b < 3) := ⟨b0, b1⟩
  have HX : Hid (X = _) := hX
  clear hR hO b0 b1 hX
  have hrw : w.heap.size < w3.heap.size := S3.out
  have hBs := HBs.out
  obtain ⟨⟨_, i0, i1, i2, i3⟩, ifr⟩ := I3.out
  obtain ⟨⟨_, r0, r1, r2, r3⟩, rfr⟩ := R3.out
  go_upto_region 2 with fail
  rw [← HX.out]
  have EN : Hid (∀ (W : World) (p' : Nat), Rd W rb B p' → Bar rb w W → ∀ x0 x1 x2 x3 : Value, Rd ((((W.setCell ⟨w.heap.size, 0, none⟩ x0).setCell ⟨w.heap.size, 1, none⟩ x1).setCell ⟨w.heap.size, 2, none⟩ x2).setCell ⟨w.heap.size, 3, none⟩ x3) rb B p' ∧ Bar rb w ((((W.setCell ⟨w.heap.size, 0, none⟩ x0).setCell ⟨w.heap.size, 1, none⟩ x1).setCell ⟨w.heap.size, 2, none⟩ x2).setCell ⟨w.heap.size, 3, none⟩ x3)) := by
    intro W p' hR hB x0 x1 x2 x3
    exact ⟨(((hR.setCell (q := ⟨w.heap.size, 0, none⟩) hBs x0).setCell (q := ⟨w.heap.size, 1, none⟩) hBs x1).setCell (q := ⟨w.heap.size, 2, none⟩) hBs x2).setCell (q := ⟨w.heap.size, 3, none⟩) hBs x3, (((hB.setCell (Nat.le_refl _) _).setCell (Nat.le_refl _) _).setCell (Nat.le_refl _) _).setCell (Nat.le_refl _) _⟩
  have hIw : w.heap.size ≤ w3.heap.size := by omega
  have hIB : B ≤ w3.heap.size := by omega
  cases t3 : (k == 3) with
  | true =>
    have K3 : Hid (k = 3) := by show _ = _; simpa using t3
    obtain ⟨X1, hX1⟩ : ∃ X1, X1 = X.setCell ⟨w3.heap.size, 2, none⟩ (.int .i64 0) := ⟨_, rfl⟩
    have J1 : Hid (F4 X1 w3.heap.size (.int .i64 k) (.int .i64 a) (.int .i64 0) (.int .i64 0)) := by show F4 _ _ _ _ _ _; rw [hX1]; exact I3.out.set2 _
    have Q1 : Hid (F4 X1 w.heap.size (.int .i64 0) (.int .i64 0) (.int .i64 0) (.int .i64 0)) := by show F4 _ _ _ _ _ _; rw [hX1]; exact R3.out.far (by omega) _
    have E1 : Hid (Rd X1 rb B (p + 1 + 1 + 1)) := by show Rd _ _ _ _; rw [hX1]; exact D3.out.setCell (q := ⟨w3.heap.size, 2, none⟩) hIB _
    have A1 : Hid (Bar rb w X1) := by show Bar _ _ _; rw [hX1]; exact B3.out.setCell (p := ⟨w3.heap.size, 2, none⟩) hIw _
    have HX1 : Hid (X1 = _) := hX1
    clear hX1
    go_upto_region 5 with fail
    rw [← HX1.out]
    clear i0 i1 i2 i3 ifr r0 r1 r2 r3 rfr
    obtain ⟨⟨_, i0, i1, i2, i3⟩, ifr⟩ := J1.out
    obtain ⟨⟨_, r0, r1, r2, r3⟩, rfr⟩ := Q1.out
    go_wp2_with fail
    refine (num rb B (p + 1 + 1 + 1) X1.heap.size 6 6 [0, 1, 5, -2, 100, 1000000] _ (E1.out.alloc _) (by omega) (nums_newQ _ _ _ _ rfl) rfl (by omega) (by omega) (by have := A1.out.size; omega)).mono ?_
    rintro e w4 ⟨⟨n, rfl, hn⟩, hR, hO⟩
    have HN : Hid (-2000000 ≤ n ∧ n ≤ 2000000) := six_small hn
    have I4 := ((J1.out.alloc _).only hO (by omega))
    have R4 := ((Q1.out.alloc _).only hO (by omega))
    have D4 : Hid (Rd w4 rb B (p + 1 + 1 + 1 + 1)) := hR
    have B4 : Hid (Bar rb w w4) := (A1.out.alloc _).trans (Bar.ofOnly hO)
    clear hR hO hn i0 i1 i2 i3 ifr r0 r1 r2 r3 rfr
    obtain ⟨⟨_, i0, i1, i2, i3⟩, ifr⟩ := I4
    obtain ⟨⟨_, r0, r1, r2, r3⟩, rfr⟩ := R4
    go_wp2
    refine bodyPost_ret (v := .agg #[.int .i64 k, .int .i64 a, .int .i64 0, .int .i64 n]) (by simp [results, Try.results121, go_sem, r0, r1, r2, r3]) rfl ⟨⟨k, a, 0, n, rfl, ?_⟩, ?_⟩
    · have := HK.out; have := HA.out; have := HN.out
      exact smq (by omega) (by omega) (by omega) (by omega)
    · have h := EN.out (w4.setCell ⟨w3.heap.size, 3, none⟩ (.int .i64 n)) _ (D4.out.setCell (q := ⟨w3.heap.size, 3, none⟩) hIB _) (B4.out.setCell (p := ⟨w3.heap.size, 3, none⟩) hIw _) (.int .i64 k) (.int .i64 a) (.int .i64 0) (.int .i64 n)
      exact ⟨⟨_, by omega, h.1⟩, h.2⟩
  | false =>
    cases t6 : (k == 6) with
    | true =>
      go_wp2_with fail
      refine (pick rb B (p + 1 + 1 + 1) 3 X D3.out (by omega) (by omega) (by omega)).mono ?_
      rintro e w4 ⟨⟨n, rfl, n0, n1⟩, hR, hO⟩
      have I4 := (I3.out.only hO (by omega))
      have R4 := (R3.out.only hO (by omega))
      have D4 : Hid (Rd w4 rb B (p + 1 + 1 + 1 + 1)) := hR
      have B4 : Hid (Bar rb w w4) := B3.out.trans (Bar.ofOnly hO)
      clear hR hO i0 i1 i2 i3 ifr r0 r1 r2 r3 rfr
      obtain ⟨⟨_, i0, i1, i2, i3⟩, ifr⟩ := I4
      obtain ⟨⟨_, r0, r1, r2, r3⟩, rfr⟩ := R4
      go_wp2
      refine bodyPost_ret (v := .agg #[.int .i64 k, .int .i64 a, .int .i64 b, .int .i64 (1 + n)]) (by simp [results, Try.results121, go_sem, r0, r1, r2, r3]) rfl ⟨⟨k, a, b, 1 + n, rfl, ?_⟩, ?_⟩
      · have := HK.out; have := HA.out; have := HBb.out
        exact smq (by omega) (by omega) (by omega) (by omega)
      · have h := EN.out (w4.setCell ⟨w3.heap.size, 3, none⟩ (.int .i64 (1 + n))) _ (D4.out.setCell (q := ⟨w3.heap.size, 3, none⟩) hIB _) (B4.out.setCell (p := ⟨w3.heap.size, 3, none⟩) hIw _) (.int .i64 k) (.int .i64 a) (.int .i64 b) (.int .i64 (1 + n))
        exact ⟨⟨_, by omega, h.1⟩, h.2⟩
    | false =>
      cases t7 : (k == 7) with
      | true =>
        go_wp2_with fail
        refine (pick rb B (p + 1 + 1 + 1) 3 X D3.out (by omega) (by omega) (by omega)).mono ?_
        rintro e w4 ⟨⟨n, rfl, n0, n1⟩, hR, hO⟩
        have I4' : Hid _ := (I3.out.only hO (by omega))
        have R4' : Hid _ := (R3.out.only hO (by omega))
        have D4 : Hid (Rd w4 rb B (p + 1 + 1 + 1 + 1)) := hR
        have B4 : Hid (Bar rb w w4) := B3.out.trans (Bar.ofOnly hO)
        clear hR hO i0 i1 i2 i3 ifr r0 r1 r2 r3 rfr
        obtain ⟨⟨_, i0, i1, i2, i3⟩, ifr⟩ := I4'.out
        obtain ⟨⟨_, r0, r1, r2, r3⟩, rfr⟩ := R4'.out
        by_cases tn : 0 < n
        · go_wp2_with fail
          refine (pick rb B (p + 1 + 1 + 1 + 1) 4 w4 D4.out (by omega) (by omega) (by omega)).mono ?_
          rintro e w5 ⟨⟨x, rfl, x0, x1⟩, hR, hO⟩
          have R5' : Hid _ := (F4.only R4'.out hO (by omega))
          have D5 : Hid (Rd w5 rb B (p + 1 + 1 + 1 + 1 + 1)) := hR
          have B5 : Hid (Bar rb w w5) := B4.out.trans (Bar.ofOnly hO)
          clear hR hO i0 i1 i2 i3 ifr r0 r1 r2 r3 rfr
          go_wp2_with fail
          refine (pick rb B (p + 1 + 1 + 1 + 1 + 1) 4 w5 D5.out (by omega) (by omega) (by omega)).mono ?_
          rintro e w6 ⟨⟨y, rfl, y0, y1⟩, hR, hO⟩
          have R6 := (F4.only R5'.out hO (by omega))
          have D6 : Hid (Rd w6 rb B (p + 1 + 1 + 1 + 1 + 1 + 1)) := hR
          have B6 : Hid (Bar rb w w6) := B5.out.trans (Bar.ofOnly hO)
          clear hR hO
          obtain ⟨⟨_, r0, r1, r2, r3⟩, rfr⟩ := R6
          go_wp2
          refine bodyPost_ret (v := .agg #[.int .i64 4, .int .i64 x, .int .i64 y, .int .i64 0]) (by simp [results, Try.results121, go_sem, r0, r1, r2, r3]) rfl ⟨⟨4, x, y, 0, rfl, ?_⟩, ?_⟩
          · exact smq (by omega) (by omega) (by omega) (by omega)
          · have h := EN.out w6 _ D6.out B6.out (.int .i64 4) (.int .i64 x) (.int .i64 y) (.int .i64 0)
            exact ⟨⟨_, by omega, h.1⟩, h.2⟩
        · go_wp2
          refine bodyPost_ret (v := .agg #[.int .i64 k, .int .i64 0, .int .i64 0, .int .i64 0]) (by simp [results, Try.results121, go_sem, r0, r1, r2, r3]) rfl ⟨⟨k, 0, 0, 0, rfl, ?_⟩, ?_⟩
          · have := HK.out
            exact smq (by omega) (by omega) (by omega) (by omega)
          · have h := EN.out ((w4.setCell ⟨w3.heap.size, 1, none⟩ (.int .i64 0)).setCell ⟨w3.heap.size, 2, none⟩ (.int .i64 0)) _ ((D4.out.setCell (q := ⟨w3.heap.size, 1, none⟩) hIB _).setCell (q := ⟨w3.heap.size, 2, none⟩) hIB _) ((B4.out.setCell (p := ⟨w3.heap.size, 1, none⟩) hIw _).setCell (p := ⟨w3.heap.size, 2, none⟩) hIw _) (.int .i64 k) (.int .i64 0) (.int .i64 0) (.int .i64 0)
            exact ⟨⟨_, by omega, h.1⟩, h.2⟩
      | false =>
        go_wp2
        refine bodyPost_ret (v := .agg #[.int .i64 k, .int .i64 a, .int .i64 b, .int .i64 0]) (by simp [results, Try.results121, go_sem, r0, r1, r2, r3]) rfl ⟨⟨k, a, b, 0, rfl, ?_⟩, ?_⟩
        · have := HK.out; have := HA.out; have := HBb.out
          exact smq (by omega) (by omega) (by omega) (by omega)
        · have h := EN.out X _ D3.out B3.out (.int .i64 k) (.int .i64 a) (.int .i64 b) (.int .i64 0)
          exact ⟨⟨_, by omega, h.1⟩, h.2⟩
end Go.Proofs.Ytgcencilgpilaaa.Own

namespace Go.Proofs.Ytgcencilgpilaaa.Own
open Go.RowKit
set_option linter.unusedVariables false
set_option linter.unusedSimpArgs false

theorem flat4_one (xs : List Q4) : ∀ v ∈ flat4 xs, v.oneCell' = true := by
  intro v hv
  simp only [flat4, List.mem_flatMap] at hv
  obtain ⟨q, _, h⟩ := hv
  simp at h
  rcases h with rfl | rfl | rfl | rfl <;> rfl

theorem own_emptyQ (w : World) (N : Nat) (hN : w.heap.size = N) : (w.alloc (.cells #[] 156)).ownsRow N 156 4 (.slice (some ⟨N, 0, none⟩) 0 0) 0 [] := by
  subst hN
  exact ⟨rfl, .inr ⟨w.heap.size, 0, #[], rfl, Nat.le_refl _, heap_new _ _, Nat.le_refl _, by unfold maxLen; omega, rfl, rfl⟩⟩

/-- A reader's block alone, or a row's own, or new ones: what an append leaves. -/
theorem Bar.grown {rb : Nat} {a w w' : World} {row : Option Nat} (h : Bar rb a w) (hg : w.grownBy w' row) (hr : ∀ k, row = some k → a.heap.size ≤ k) : Bar rb a w' :=
  ⟨hg.os.trans h.os, hg.tape.trans h.tape, hg.output.trans h.output, Nat.le_trans h.size hg.size, fun k hk hn => by
    rw [hg.block k (Nat.lt_of_lt_of_le hk h.size) (fun e => by have := hr k e.symm; omega)]; exact h.block k hk hn⟩
theorem Rd.grown {w w' : World} {rb B p : Nat} {row : Option Nat} (h : Rd w rb B p) (hg : w.grownBy w' row) (hr : ∀ k, row = some k → B ≤ k) : Rd w' rb B p :=
  h.keep hg.size fun k hk => hg.block k (Nat.lt_of_lt_of_le hk h.2.1) (fun e => by have := hr k e.symm; omega)

theorem infoInsD : (Try.prog.info? 156).map (fun i => (i.zero, i.size, i.bytes)) = some (some (.agg #[.int .i64 0, .int .i64 0, .int .i64 0, .int .i64 0]), 4, 32) := by kernel_rfl

set_option maxRecDepth 100000 in
set_option maxHeartbeats 4000000 in
theorem l2Prog (rb B p : Nat) (w : World) (h : Rd w rb B p) (hp : p ≤ 2 ^ 29) :
    Calls Try.prog 80 #[.pointer (some ⟨rb, 0, none⟩)] w fun e w' => ∃ g cap xs, e = .returned (.slice (some ⟨g, 0, none⟩) xs.length cap) ∧ OwnQ w' w.heap.size (.slice (some ⟨g, 0, none⟩) xs.length cap) xs ∧ xs.length ≤ 7 ∧ Sm4 xs ∧ (∃ p', p' ≤ p + 100 ∧ Rd w' rb B p') ∧ Bar rb w w' := by
  have HR : Hid (Rd w rb B p) := h
  have hrb : rb < w.heap.size := Nat.lt_of_lt_of_le h.1 h.2.1
  have HBs : Hid (B ≤ w.heap.size) := h.2.1
  clear h
  go_enter Try.func80, Try.ntmps80
  go_wp2_with fail
  refine (pick rb B p 3 w HR.out (by omega) (by omega) (by omega)).mono ?_
  rintro e w1 ⟨⟨c, rfl, c0, c1⟩, hR, hO⟩
  have D1 : Hid (Rd w1 rb B (p + 1)) := hR
  have B1 : Hid (Bar rb w w1) := Bar.ofOnly hO
  clear hR hO
  cases t0 : (c == 0) with
  | true =>
    go_wp2_with fail
    refine (pick rb B (p + 1) 3 w1 D1.out (by omega) (by omega) (by omega)).mono ?_
    rintro e w2 ⟨⟨b, rfl, b0, b1⟩, hR, hO⟩
    have D2 : Hid (Rd w2 rb B (p + 1 + 1)) := hR
    have B2 : Hid (Bar rb w w2) := B1.out.trans (Bar.ofOnly hO)
    clear hR hO
    go_wp2_with fail
    refine (pick rb B (p + 1 + 1) 3 w2 D2.out (by omega) (by omega) (by omega)).mono ?_
    rintro e w3 ⟨⟨d, rfl, d0, d1⟩, hR, hO⟩
    have D3 : Hid (Rd w3 rb B (p + 1 + 1 + 1)) := hR
    have B3 : Hid (Bar rb w w3) := B2.out.trans (Bar.ofOnly hO)
    clear hR hO
    go_wp2_with fail
    refine (pick rb B (p + 1 + 1 + 1) 3 w3 D3.out (by omega) (by omega) (by omega)).mono ?_
    rintro e w4 ⟨⟨n, rfl, n0, n1⟩, hR, hO⟩
    have D4 : Hid (Rd w4 rb B (p + 1 + 1 + 1 + 1)) := hR
    have B4 : Hid (Bar rb w w4) := B3.out.trans (Bar.ofOnly hO)
    clear hR hO
    go_wp2
    go_ret
    refine ⟨w4.heap.size, 4, [(1, 0, b, 0), (3, 1, 0, 1 + n), (4, 0, 1, 0), (2, d, 0, 0)], rfl, ⟨rfl, .inr ⟨_, 4, _, rfl, B4.out.size, heap_new _ _, Nat.le_refl _, by unfold maxLen; decide, rfl, rfl⟩⟩, by simp, ?_, ⟨_, by omega, D4.out.alloc _⟩, B4.out.alloc _⟩
    intro k hk
    have : k < 4 := hk
    match k, this with
    | 0, _ => exact smq (by omega) (by omega) (by omega) (by omega)
    | 1, _ => exact smq (by omega) (by omega) (by omega) (by omega)
    | 2, _ => exact smq (by omega) (by omega) (by omega) (by omega)
    | 3, _ => exact smq (by omega) (by omega) (by omega) (by omega)
  | false =>
    go_wp2_with fail
    refine (pick rb B (p + 1) 8 _ (D1.out.alloc _) (by omega) (by omega) (by omega)).mono ?_
    rintro e w2 ⟨⟨m, rfl, m0, m1⟩, hR, hO⟩
    obtain ⟨m, rfl⟩ := Int.eq_ofNat_of_zero_le m0
    have OW : Hid (OwnQ w2 w.heap.size (.slice (some ⟨w1.heap.size, 0, none⟩) 0 0) []) := by
      have h : OwnQ (w1.alloc (.cells #[] 156)) w.heap.size (.slice (some ⟨w1.heap.size, 0, none⟩) 0 0) [] := OwnQ.lower (own_emptyQ w1 w1.heap.size rfl) B1.out.size
      exact h.bar2 (Bar.ofOnly hO) hrb
    have D2 : Hid (Rd w2 rb B (p + 1 + 1)) := hR
    have B2 : Hid (Bar rb w w2) := (B1.out.alloc _).trans (Bar.ofOnly hO)
    clear hR hO m0
    go_wp2_with fail
    go_loopw [5, 6] (fun v i wr => ∃ j g cap xs, j ≤ m ∧ i = .int .i64 (j : Nat) ∧ v = .slice (some ⟨g, 0, none⟩) xs.length cap ∧ OwnQ wr w.heap.size (.slice (some ⟨g, 0, none⟩) xs.length cap) xs ∧ xs.length + j = m ∧ Sm4 xs ∧ (∃ p', p' ≤ p + 2 + 10 * xs.length ∧ Rd wr rb B p') ∧ Bar rb w wr) (fun _ i _ => (intOf i).toNat)
    case atStart => exact ⟨m, w1.heap.size, 0, [], Nat.le_refl _, rfl, rfl, OW.out, by simp, Sm4.nil, ⟨_, by omega, D2.out⟩, B2.out⟩
    case round =>
      clear OW D2 B2
      obtain ⟨j, g, cap, xs, hj, rfl, rfl, hown, hxl, hsm, ⟨p', hp', hrd⟩, hbar⟩ := hrel
      have OW : Hid (OwnQ wr w.heap.size (.slice (some ⟨g, 0, none⟩) xs.length cap) xs) := hown
      have SM : Hid (Sm4 xs) := hsm
      have D2 : Hid (Rd wr rb B p') := hrd
      have B2 : Hid (Bar rb w wr) := hbar
      clear hown hsm hrd hbar
      by_cases hlt : 0 < j
      · obtain ⟨i0, hi, hz0, hz1, hz2⟩ := info_parts infoInsD
        have I0 : Hid (Try.prog.info? 156 = some i0 ∧ i0.zero = some (.agg #[.int .i64 0, .int .i64 0, .int .i64 0, .int .i64 0]) ∧ i0.size = 4 ∧ i0.bytes = 32) := ⟨hi, hz0, hz1, hz2⟩
        clear hi hz0 hz1 hz2
        go_wp2_with fail
        refine (l2Any rb B p' wr D2.out (by omega)).mono ?_
        rintro e w3 ⟨⟨k, a, b, n, rfl, hq⟩, ⟨p3, hp3, hrd⟩, hbar⟩
        have OW3 : Hid (OwnQ w3 w.heap.size (.slice (some ⟨g, 0, none⟩) xs.length cap) xs) := OW.out.bar2 hbar hrb
        have HQ : Hid (SmQ (k, a, b, n)) := hq
        have D3 : Hid (Rd w3 rb B p3) := hrd
        have B3 : Hid (Bar rb w w3) := B2.out.trans hbar
        clear hq hrd hbar
        go_wp2_with (at_builtin; refine wpList_append_lies _ rfl (.tmp 31) (.tmp 34) 51 rfl w.heap.size 156 i0 (.agg #[.int .i64 0, .int .i64 0, .int .i64 0, .int .i64 0]) 4 32 Try.underlying51 I0.out.1 I0.out.2.1 I0.out.2.2.1 I0.out.2.2.2 rfl (by decide) (.slice (some ⟨g, 0, none⟩) xs.length cap) xs.length (flat4 xs) rfl (OwnQ.keep OW3.out (below_new _ _)) ⟨w3.heap.size, 0, none⟩ 1 1 [.int .i64 k, .int .i64 a, .int .i64 b, .int .i64 n] rfl rfl (four_new _ _ _ _ _) (by simp [Value.oneCell']) (by decide) (by unfold maxLen; omega) (by omega) (by have := B3.out.size; rw [size_new]; omega) (w3.heap.size + 1) (size_new _ _) ?_)
        intro g4 cap4 w4 hown4 hgr hloc hg4
        have OW4 : Hid (OwnQ w4 w.heap.size (.slice (some ⟨g4, 0, none⟩) (xs ++ [(k, a, b, n)]).length cap4) (xs ++ [(k, a, b, n)])) := by
          show OwnQ _ _ _ _
          unfold OwnQ
          rw [List.length_append, flat4_snoc]
          exact hown4
        have hbk : w.heap.size ≤ g := by
          obtain ⟨_, h2⟩ := OW3.out
          rcases h2 with ⟨hv, _⟩ | ⟨g', _, _, hv, hg, _⟩
          · cases hv
          · injection hv with e1; injection e1 with e1; injection e1 with e1; omega
        have D4 : Hid (Rd w4 rb B p3) := (D3.out.alloc _).grown hgr (fun k hk => by simp only [Value.ownBlock] at hk; injection hk with hk; have := HBs.out; omega)
        have B4 : Hid (Bar rb w w4) := (B3.out.alloc _).grown hgr (fun k hk => by simp only [Value.ownBlock] at hk; injection hk with hk; omega)
        clear hown4 hgr hloc hg4 hbk
        go_wp2
        go_roundw
        case rel => exact ⟨j - 1, g4, cap4, xs ++ [(k, a, b, n)], by omega, by go_num, by simp, OW4.out, by simp; omega, SM.out.snoc HQ.out, ⟨_, by simp; omega, D4.out⟩, B4.out⟩
        case measure => simp [intOf]; omega
      · go_wp2
        go_ret
        exact ⟨g, cap, xs, rfl, OW.out, by omega, SM.out, ⟨_, by omega, D2.out⟩, B2.out⟩
end Go.Proofs.Ytgcencilgpilaaa.Own
