/-
  Own texts, bundled: RunB, Pick, OwnQ, DrawQ, DrawProg, DrawEnt, DrawAny, StepRow, L3Copy.
-/
import Derived.Test.YtfifiobcmdmefaaPk4
import Derived.Test.YtfifiobcmdmefaaPk1
import Derived.Test.YtfifiobcmdmefaaPk3
import Derived.BigQuiet
import Derived.Deep.QuietTactic
import Derived.OwnWalk
import Derived.Deep.Cut
import Derived.Deep.CutRange
import Derived.Deep.AppendLies
import Derived.Test.YtfifiobcmdmefaaPk2
import Derived.Deep.CutBlock
import Derived.Deep.Upon
import Derived.Deep.RegionHeld
namespace Go.Proofs.Ytfifiobcmdmefaa.Own
open Go.RowKit
set_option linter.unusedVariables false

theorem OwnP.ownB {t : TypeId} {w : World} {B : Nat} {v : Value} {xs : List P2} (h : OwnP t w B v xs) :
    ∃ a cap, v = .slice a xs.length cap ∧ OwnB w B a xs ∧ (∀ x, a = some x → v.ownBlock = some x.block ∧ B ≤ x.block ∧ x.block < w.heap.size) := by
  obtain ⟨a, cap, hv, hs, hc, hm, hb⟩ := h.open
  refine ⟨a, cap, hv, ?_, fun x e => ?_⟩
  · rcases hs with h0 | ⟨b, off, rfl, hat⟩
    · exact .inl h0
    · obtain ⟨h1, h2, h3⟩ := hb _ rfl
      simp only at h2
      subst h2
      refine .inr ⟨b, rfl, (World.ownsRow.lt h b h1).1, hat, fun o => ?_⟩
      rw [hv] at h
      exact OwnP.frozen h o
  · obtain ⟨h1, _, _⟩ := hb x e
    exact ⟨h1, World.ownsRow.lt h x.block h1⟩

structure RunB (o : RunOut) (B : Nat) (w : World) (a1 a2 : Option Addr) : Prop where
  reads : OwnB w B a1 o.reads
  puts : OwnB w B a2 o.puts
  apart : Apart a1 a2 o.reads o.puts
  far1 : ∀ x, a1 = some x → B ≤ x.block ∧ x.block < w.heap.size
  far2 : ∀ x, a2 = some x → B ≤ x.block ∧ x.block < w.heap.size
theorem RunPost.open {o : RunOut} {B : Nat} {e : Ending} {w : World} (h : RunPost o B e w) : ∃ a1 c1 a2 c2, e = .returned (.agg #[.slice a1 o.reads.length c1, .slice a2 o.puts.length c2, .int .i64 o.val, .int .i64 o.code]) ∧ RunB o B w a1 a2 := by
  obtain ⟨rv, pv, rfl, hr, hp, ha⟩ := h
  obtain ⟨a1, c1, e1, o1, f1⟩ := hr.ownB
  obtain ⟨a2, c2, e2, o2, f2⟩ := hp.ownB
  refine ⟨a1, c1, a2, c2, by rw [e1, e2], o1, o2, .inr (.inr fun g g' eg eg' e => ?_), fun x e => (f1 x e).2, fun x e => (f2 x e).2⟩
  have h1 := (f1 _ eg).1
  have h2 := (f2 _ eg').1
  rcases ha with h | h
  · rw [h] at h1; cases h1
  · exact h (by rw [h1, h2, e])
theorem RunB.below {o : RunOut} {B : Nat} {w w' : World} {a1 a2 : Option Addr} (h : RunB o B w a1 a2) (hb : Below w.heap.size w w') : RunB o B w' a1 a2 :=
  ⟨h.reads.below hb, h.puts.below hb, h.apart, fun x e => ⟨(h.far1 x e).1, Nat.lt_of_lt_of_le (h.far1 x e).2 hb.size⟩, fun x e => ⟨(h.far2 x e).1, Nat.lt_of_lt_of_le (h.far2 x e).2 hb.size⟩⟩
theorem RunB.turned {L : List Nat} {o : RunOut} {B : Nat} {w w' : World} {a1 a2 : Option Addr} (h : RunB o B w a1 a2) (ht : Turned L w w') (h1 : ∀ x, a1 = some x → x.block ∉ L) (h2 : ∀ x, a2 = some x → x.block ∉ L) : RunB o B w' a1 a2 :=
  ⟨h.reads.turned ht (fun g e => h1 _ e), h.puts.turned ht (fun g e => h2 _ e), h.apart, fun x e => ⟨(h.far1 x e).1, Nat.lt_of_lt_of_le (h.far1 x e).2 ht.size⟩, fun x e => ⟨(h.far2 x e).1, Nat.lt_of_lt_of_le (h.far2 x e).2 ht.size⟩⟩
/-- The blocks of a run's lists. -/
def blocksOf (a1 a2 : Option Addr) : List Nat := (a1.map (·.block)).toList ++ (a2.map (·.block)).toList
theorem mem_blocksOf {a1 a2 : Option Addr} {x : Nat} : x ∈ blocksOf a1 a2 → (∃ y, a1 = some y ∧ y.block = x) ∨ (∃ y, a2 = some y ∧ y.block = x) := by
  intro h
  unfold blocksOf at h
  rw [List.mem_append, Option.mem_toList, Option.mem_toList] at h
  rcases h with h | h
  · simp only [Option.map_eq_some_iff] at h; exact .inl h
  · simp only [Option.map_eq_some_iff] at h; exact .inr h
theorem blocksOf_1 {a1 a2 : Option Addr} {g : Nat} (h : a1 = some ⟨g, 0, none⟩) : g ∈ blocksOf a1 a2 := by subst h; simp [blocksOf]
theorem blocksOf_2 {a1 a2 : Option Addr} {g : Nat} (h : a2 = some ⟨g, 0, none⟩) : g ∈ blocksOf a1 a2 := by subst h; simp [blocksOf]
end Go.Proofs.Ytfifiobcmdmefaa.Own

namespace Go.Proofs.Ytfifiobcmdmefaa.Own
open Go.RowKit

/-- Bytes in memory, in a block below B. -/
def Bytes (w : World) (B : Nat) (a : Option Addr) (n : Nat) : Prop := n = 0 ∨ ∃ b off, a = some ⟨b, off, none⟩ ∧ b < B ∧ ∀ i, i < n → ∃ z : Nat, z < 256 ∧ w.cell? ⟨b, off + i, none⟩ = some (.int .u8 z)

/-- A reader in block rb, at place p; what it reads lies below B. -/
def Rd (w : World) (rb B : Nat) (p : Nat) : Prop := rb < B ∧ B ≤ w.heap.size ∧ ∃ a n c, w.cell? ⟨rb, 0, none⟩ = some (.slice a n c) ∧ w.cell? ⟨rb, 1, none⟩ = some (.int .i64 p) ∧ (∀ o, w.frozen? ⟨rb, o, none⟩ = false) ∧ n ≤ 2000 ∧ Bytes w B a n ∧ (n = 0 ∨ ∀ x, a = some x → x.block ≠ rb)

theorem Bar.at {rb : Nat} {w w' : World} (h : Bar rb w w') {b off : Nat} {xs : List (Int × Int)} (hx : BoxAt w b off xs) (hb : b ≠ rb) : BoxAt w' b off xs := by
  have e : ∀ o, w'.cell? ⟨b, o, none⟩ = w.cell? ⟨b, o, none⟩ := fun o => World.cell?_of_block (w := w) (a := ⟨b, o, none⟩) (h.block b hx.1 hb)
  refine ⟨Nat.lt_of_lt_of_le hx.1 h.size, fun i hi => ?_⟩
  rw [e, e]; exact hx.2 i hi

theorem Rd.keep {w w' : World} {rb B p : Nat} (h : Rd w rb B p) (hs : w.heap.size ≤ w'.heap.size) (hk : ∀ k, k < B → w'.heap[k]? = w.heap[k]?) : Rd w' rb B p := by
  obtain ⟨hrb, hB, a, n, c, c0, c1, hfr, hn, hby, hne⟩ := h
  have e : ∀ b o, b < B → w'.cell? ⟨b, o, none⟩ = w.cell? ⟨b, o, none⟩ := fun b o hb => World.cell?_of_block (w := w) (a := ⟨b, o, none⟩) (hk b hb)
  refine ⟨hrb, Nat.le_trans hB hs, a, n, c, by rw [e _ _ hrb]; exact c0, by rw [e _ _ hrb]; exact c1, fun o => ?_, hn, ?_, hne⟩
  · rw [World.frozen?_of_block (w := w) (a := ⟨rb, o, none⟩) (hk rb hrb)]; exact hfr o
  · rcases hby with h | ⟨b, off, rfl, hb, hz⟩
    · exact .inl h
    · exact .inr ⟨b, off, rfl, hb, fun i hi => by rw [e _ _ hb]; exact hz i hi⟩
theorem Rd.below {w w' : World} {rb B p : Nat} (h : Rd w rb B p) (hb : Below w.heap.size w w') : Rd w' rb B p := h.keep hb.size fun k hk => hb.block k (Nat.lt_of_lt_of_le hk h.2.1)
theorem Rd.setCell {w : World} {rb B p : Nat} (h : Rd w rb B p) {q : Addr} (hq : B ≤ q.block) (v : Value) : Rd (w.setCell q v) rb B p := h.keep (by simp [World.setCell]) fun k hk => Below.heap_setCell _ _ _ _ (by omega)
theorem Rd.alloc {w : World} {rb B p : Nat} (h : Rd w rb B p) (o : Obj) : Rd (w.alloc o) rb B p := h.below ((Below.refl _ _).alloc (Nat.le_refl _) _)

theorem rd_next {w : World} {rb B p : Nat} (h : Rd w rb B p) : Rd (w.setCell ⟨rb, 1, none⟩ (.int .i64 ((p : Int) + 1))) rb B (p + 1) ∧ Only rb w (w.setCell ⟨rb, 1, none⟩ (.int .i64 ((p : Int) + 1))) := by
  obtain ⟨hrb, hB, a, n, c, c0, c1, hfr, hn, hby, hne⟩ := h
  refine ⟨⟨hrb, by simpa [World.setCell] using hB, a, n, c, ?_, ?_, ?_, hn, ?_, hne⟩, (Only.refl _ _).setCell _⟩
  · rw [setCell_cell_other _ _ _ _ _ (by omega)]; exact c0
  · rw [setCell_cell_same _ _ _ _ _ c1]; rfl
  · intro o; simpa using hfr o
  · rcases hby with h | ⟨b, off, rfl, hb, hz⟩
    · exact .inl h
    rcases hne with h | hne
    · exact .inl h
    · refine .inr ⟨b, off, rfl, hb, fun i hi => ?_⟩
      rw [World.cell?_setCell_other _ _ _ _ (by intro e; injection e with e1; exact hne _ rfl e1.symm)]
      exact hz i hi

theorem rd_drew {w w' : World} {rb B p : Nat} (h : Rd w rb B p ∧ Only rb w' w) (n : Nat) : Rd (w.drewN n) rb B p ∧ Only rb w' (w.drewN n) := by
  obtain ⟨h, o⟩ := h
  exact ⟨h, ⟨o.os, o.tape, o.output, o.size, o.block, o.frozen⟩⟩

theorem xor_nonneg (a b : Int) (ha : 0 ≤ a) (ha2 : a < 2 ^ 62) (hb : 0 ≤ b) (hb2 : b < 2 ^ 62) : 0 ≤ bits .xor .i64 a b := by
  obtain ⟨x, rfl⟩ := Int.eq_ofNat_of_zero_le ha
  obtain ⟨y, rfl⟩ := Int.eq_ofNat_of_zero_le hb
  have hx : x ^^^ y < 2 ^ 62 := Nat.xor_lt_two_pow (by omega) (by omega)
  have h1 : (BitVec.ofInt 64 (x : Int)).toNat = x := by
    rw [BitVec.ofInt_natCast, BitVec.toNat_ofNat]; exact Nat.mod_eq_of_lt (by omega)
  have h2 : (BitVec.ofInt 64 (y : Int)).toNat = y := by
    rw [BitVec.ofInt_natCast, BitVec.toNat_ofNat]; exact Nat.mod_eq_of_lt (by omega)
  show 0 ≤ IntKind.i64.wrap ((BitVec.ofInt 64 (x : Int) ^^^ BitVec.ofInt 64 (y : Int)).toNat : Int)
  rw [BitVec.toNat_xor, h1, h2, IntKind.wrap_i64]
  omega

set_option maxHeartbeats 2000000 in
theorem pick (rb B p : Nat) (m : Int) (w : World) (h : Rd w rb B p) (hp : p ≤ 2 ^ 40) (hm : 1 ≤ m) (hm2 : m ≤ 2 ^ 40) :
    Calls Try.prog 43 #[.pointer (some ⟨rb, 0, none⟩), .int .i64 m] w fun e w' => (∃ r : Int, e = .returned (.int .i64 r) ∧ 0 ≤ r ∧ r < m) ∧ Rd w' rb B (p + 1) ∧ Only rb w w' := by
  have NX : Hid (Rd (w.setCell ⟨rb, 1, none⟩ (.int .i64 ((p : Int) + 1))) rb B (p + 1) ∧ Only rb w (w.setCell ⟨rb, 1, none⟩ (.int .i64 ((p : Int) + 1)))) := rd_next h
  obtain ⟨hrb, hBs, a, n, c, c0, c1, hfr, hn, hby, hne⟩ := h
  have f1 := hfr 1
  have HF : Hid (∀ o, w.frozen? ⟨rb, o, none⟩ = false) := hfr
  have HB : Hid (Bytes w B a n) := hby
  have HN : Hid (n = 0 ∨ ∀ x, a = some x → x.block ≠ rb) := hne
  clear hfr hby hne
  by_cases h0 : n = 0
  · have h0' : ((n : Int) == 0) = true := by simp [h0]
    clear h0
    go_enter Try.func43, Try.ntmps43
    go_wp2
    go_ret
    exact ⟨⟨0, rfl, by omega, by omega⟩, NX.out⟩
  · have h0' : ((n : Int) == 0) = false := by simp; omega
    by_cases hlt : p < n
    · rcases HB.out with h | ⟨b, off, rfl, hb, hz⟩
      · omega
      obtain ⟨z, hz1, hz2⟩ := hz p hlt
      clear hz
      have hbr : ¬ b = rb := by
        rcases HN.out with h | h
        · omega
        · exact h _ rfl
      have hbr2 : ¬ rb = b := fun e => hbr e.symm
      go_enter Try.func43, Try.ntmps43
      go_wp2
      go_ret
      refine ⟨⟨_, rfl, ?_, ?_⟩, NX.out⟩
      · exact Int.emod_nonneg _ (by omega)
      · exact Int.emod_lt_of_pos _ (by omega)
    · rcases HB.out with h | ⟨b, off, rfl, hb, hz⟩
      · omega
      obtain ⟨i1, e1, l1⟩ : ∃ i1 : Nat, (p : Int) % (n : Int) = i1 ∧ i1 < n := ⟨p % n, by simp, Nat.mod_lt _ (by omega)⟩
      obtain ⟨i2, e2, l2⟩ : ∃ i2 : Nat, ((p : Int) * 7 + 3) % (n : Int) = i2 ∧ i2 < n := ⟨(p * 7 + 3) % n, by simp, Nat.mod_lt _ (by omega)⟩
      obtain ⟨q, e3, l3⟩ : ∃ q : Nat, (p : Int) / (n : Int) = q ∧ q ≤ p := ⟨p / n, by simp, Nat.div_le_self _ _⟩
      obtain ⟨z1, hz1, hz2⟩ := hz i1 l1
      obtain ⟨z2, hz3, hz4⟩ := hz i2 l2
      clear hz
      have hbr : ¬ b = rb := by
        rcases HN.out with h | h
        · omega
        · exact h _ rfl
      have hbr2 : ¬ rb = b := fun e => hbr e.symm
      have hpos : (0 : Int) < (n : Int) := by omega
      have L1 : (i1 : Int) < (n : Int) := by omega
      have L2 : (i2 : Int) < (n : Int) := by omega
      go_enter Try.func43, Try.ntmps43
      go_wp2
      go_quiet (fail)
      go_wp2
      go_ret
      refine ⟨⟨_, rfl, ?_, ?_⟩, rd_drew NX.out _⟩
      · exact Int.tmod_nonneg _ (xor_nonneg _ _ (by omega) (by omega) (by omega) (by omega))
      · exact Int.tmod_lt_of_pos _ (by omega)

/-- A list of numbers in block lb. -/
def Nums (w : World) (lb : Nat) (zs : List Int) : Prop := lb < w.heap.size ∧ ∀ i, i < zs.length → w.cell? ⟨lb, i, none⟩ = some (.int .i64 (zs.getD i 0))

set_option maxHeartbeats 1000000 in
theorem num (rb B p lb c n : Nat) (zs : List Int) (w : World) (h : Rd w rb B p) (hp : p ≤ 2 ^ 40) (hz : Nums w lb zs) (hzl : zs.length = n) (h1 : 1 ≤ n) (h2 : n ≤ 2 ^ 40) (hl : lb ≠ rb) :
    Calls Try.prog 44 #[.pointer (some ⟨rb, 0, none⟩), .slice (some ⟨lb, 0, none⟩) n c] w fun e w' => (∃ r : Int, e = .returned (.int .i64 r) ∧ r ∈ zs) ∧ Rd w' rb B (p + 1) ∧ Only rb w w' := by
  have HR : Hid (Rd w rb B p) := h
  have HZ : Hid (Nums w lb zs) := hz
  have HL : Hid (zs.length = n) := hzl
  clear h hz hzl
  go_enter Try.func44, Try.ntmps44
  go_wp2_with fail
  refine (pick rb B p n w HR.out hp (by omega) (by omega)).mono ?_
  rintro e w1 ⟨⟨r, rfl, r0, r1⟩, hR, hO⟩
  obtain ⟨k, rfl⟩ := Int.eq_ofNat_of_zero_le r0
  have hk : k < n := by omega
  have hc : w1.cell? ⟨lb, k, none⟩ = some (.int .i64 (zs.getD k 0)) := by
    rw [hO.cell (p := ⟨lb, k, none⟩) hl]; exact HZ.out.2 k (by rw [HL.out]; exact hk)
  obtain ⟨v, hv⟩ : ∃ v, v = zs.getD k 0 := ⟨_, rfl⟩
  rw [← hv] at hc
  have HV : Hid (v = zs.getD k 0) := hv
  have HF : Hid (Rd w1 rb B (p + 1) ∧ Only rb w w1) := ⟨hR, hO⟩
  clear hv hR hO
  go_wp2
  go_ret
  refine ⟨⟨v, rfl, ?_⟩, HF.out⟩
  rw [HV.out]
  have := HL.out
  simp [List.getD, show k < zs.length by omega]

set_option maxHeartbeats 1000000 in
theorem l15Open (a : Option Addr) (n c : Nat) (w : World) (h : Bytes w w.heap.size a n) (hc : n ≤ c) (hm : c ≤ maxLen) :
    Calls Try.prog 41 #[.slice a n c] w fun e w' => e = .returned (.pointer (some ⟨w.heap.size, 0, none⟩)) ∧ Rd w' w.heap.size (w.heap.size + 1) 0 ∧ Below w.heap.size w w' := by
  unfold maxLen at hm
  have HB : Hid (Bytes w w.heap.size a n) := h
  have key : ∀ m, m ≤ n → m ≤ 2000 → ∀ c', Rd (w.alloc (.cells #[.slice a m c', .int .i64 0] 128)) w.heap.size (w.heap.size + 1) 0 := by
    intro m hm1 hm2 c'
    refine ⟨by omega, by rw [size_new]; omega, a, m, c', by rw [cell_heap (heap_new _ _)]; rfl, by rw [cell_heap (heap_new _ _)]; rfl, fun o => frozen_heap (heap_new _ _) o, hm2, ?_, ?_⟩
    · rcases HB.out with h | ⟨b, off, rfl, hb, hz⟩
      · exact .inl (by omega)
      · refine .inr ⟨b, off, rfl, by omega, fun i hi => ?_⟩
        obtain ⟨z, hz1, hz2⟩ := hz i (by omega)
        exact ⟨z, hz1, by rw [((Below.refl w.heap.size w).alloc (Nat.le_refl _) _).cell (p := ⟨b, off + i, none⟩) hb]; exact hz2⟩
    · rcases HB.out with h | ⟨b, off, rfl, hb, hz⟩
      · exact .inl (by omega)
      · right
        intro x hx
        injection hx with hx
        subst hx
        exact Nat.ne_of_lt hb
  have KEY : Hid (∀ m, m ≤ n → m ≤ 2000 → ∀ c', Rd (w.alloc (.cells #[.slice a m c', .int .i64 0] 128)) w.heap.size (w.heap.size + 1) 0) := key
  clear key h
  by_cases hn : n ≤ 2000
  · go_enter Try.func41, Try.ntmps41
    go_wp2
    go_ret
    exact ⟨rfl, KEY.out n (Nat.le_refl _) hn _, (Below.refl _ _).alloc (Nat.le_refl _) _⟩
  · go_enter Try.func41, Try.ntmps41
    go_wp2
    go_ret
    exact ⟨rfl, KEY.out 2000 (by omega) (by omega) _, (Below.refl _ _).alloc (Nat.le_refl _) _⟩
end Go.Proofs.Ytfifiobcmdmefaa.Own

namespace Go.Proofs.Ytfifiobcmdmefaa.Own
open Go.RowKit
set_option linter.unusedVariables false
set_option linter.unusedSimpArgs false

def flat4 (xs : List Q4) : List Value := xs.flatMap fun p => [.int .i64 p.1, .int .i64 p.2.1, .int .i64 p.2.2.1, .int .i64 p.2.2.2]
theorem flat4_length (xs : List Q4) : (flat4 xs).length = xs.length * 4 := by
  induction xs with
  | nil => rfl
  | cons p r ih => simp [flat4] at ih ⊢; omega
theorem flat4_snoc (xs : List Q4) (p : Q4) : flat4 (xs ++ [p]) = flat4 xs ++ [.int .i64 p.1, .int .i64 p.2.1, .int .i64 p.2.2.1, .int .i64 p.2.2.2] := by simp [flat4]
theorem flat4_get (xs : List Q4) (i : Nat) (h : i < xs.length) : (flat4 xs)[i * 4]? = some (.int .i64 (xs.getD i q0).1) ∧ (flat4 xs)[i * 4 + 1]? = some (.int .i64 (xs.getD i q0).2.1) ∧ (flat4 xs)[i * 4 + 2]? = some (.int .i64 (xs.getD i q0).2.2.1) ∧ (flat4 xs)[i * 4 + 3]? = some (.int .i64 (xs.getD i q0).2.2.2) := by
  induction xs generalizing i with
  | nil => simp at h
  | cons p r ih =>
    cases i with
    | zero => simp [flat4]
    | succ i =>
      have := ih i (by simpa using h)
      simp only [flat4, List.flatMap_cons] at this ⊢
      rw [show (i + 1) * 4 = i * 4 + 4 by omega, show i * 4 + 4 + 1 = i * 4 + 1 + 4 by omega, show i * 4 + 4 + 2 = i * 4 + 2 + 4 by omega, show i * 4 + 4 + 3 = i * 4 + 3 + 4 by omega]
      simpa using this

/-- v is a slice of the instructions xs, its memory from B on its own. -/
def OwnQ (w : World) (B : Nat) (v : Value) (xs : List Q4) : Prop := w.ownsRow B 188 4 v xs.length (flat4 xs)

theorem OwnQ.keep {w w' : World} {B : Nat} {v : Value} {xs : List Q4} (h : OwnQ w B v xs) (hb : Below w.heap.size w w') : OwnQ w' B v xs := by
  obtain ⟨h1, h2⟩ := h
  refine ⟨h1, ?_⟩
  rcases h2 with h2 | ⟨g, cap, cur, hv, hg, hh, r⟩
  · exact .inl h2
  · exact .inr ⟨g, cap, cur, hv, hg, by rw [hb.block g (Array.getElem?_eq_some_iff.1 hh).1]; exact hh, r⟩
theorem OwnQ.bar {w w' : World} {B rb : Nat} {v : Value} {xs : List Q4} (h : OwnQ w B v xs) (hb : Bar rb w w') (hr : w.heap.size ≤ rb) : OwnQ w' B v xs := by
  obtain ⟨h1, h2⟩ := h
  refine ⟨h1, ?_⟩
  rcases h2 with h2 | ⟨g, cap, cur, hv, hg, hh, r⟩
  · exact .inl h2
  · have := (Array.getElem?_eq_some_iff.1 hh).1
    exact .inr ⟨g, cap, cur, hv, hg, by rw [hb.block g this (by omega)]; exact hh, r⟩
theorem OwnQ.lower {w : World} {B B' : Nat} {v : Value} {xs : List Q4} (h : OwnQ w B v xs) (hB : B' ≤ B) : OwnQ w B' v xs := by
  obtain ⟨h1, h2⟩ := h
  refine ⟨h1, ?_⟩
  rcases h2 with h2 | ⟨g, cap, cur, hv, hg, r⟩
  · exact .inl h2
  · exact .inr ⟨g, cap, cur, hv, Nat.le_trans hB hg, r⟩
theorem OwnQ.open {w : World} {B : Nat} {v : Value} {xs : List Q4} (h : OwnQ w B v xs) : ∃ a cap, v = .slice a xs.length cap ∧ Sl4 w a xs ∧ xs.length ≤ cap := by
  obtain ⟨h1, h2⟩ := h
  rcases h2 with ⟨hv, h0⟩ | ⟨g, cap, cur, hv, hg, hh, hmc, hml, hsz, htk⟩
  · refine ⟨none, 0, by rw [hv, h0], .inl (List.eq_nil_of_length_eq_zero h0), by omega⟩
  · refine ⟨some ⟨g, 0, none⟩, cap, hv, .inr ⟨g, 0, rfl, (Array.getElem?_eq_some_iff.1 hh).1, fun i hi => ?_⟩, hmc⟩
    have e := flat4_get xs i hi
    rw [← htk, List.getElem?_take_of_lt (by omega), List.getElem?_take_of_lt (by omega), List.getElem?_take_of_lt (by omega), List.getElem?_take_of_lt (by omega)] at e
    rw [cell_heap hh, cell_heap hh, cell_heap hh, cell_heap hh, Nat.zero_add]
    simpa using e

theorem four_new (w : World) (a b c d : Value) : ∀ j x, [a, b, c, d][j]? = some x → (w.alloc (.cells #[a, b, c, d] 188)).cell? ((⟨w.heap.size, 0, none⟩ : Addr).add j) = some x := by
  intro j x hj
  match j, hj with
  | 0, hj => simp at hj; subst hj; simp [Addr.add]
  | 1, hj => simp at hj; subst hj; simp [Addr.add]
  | 2, hj => simp at hj; subst hj; simp [Addr.add]
  | 3, hj => simp at hj; subst hj; simp [Addr.add]

theorem infoIns5 : (Try.prog.info? 188).map (fun i => (i.zero, i.size, i.bytes)) = some (some (.agg #[.int .i64 0, .int .i64 0, .int .i64 0, .int .i64 0]), 4, 32) := by kernel_rfl

theorem getD_set4 (xs : List Q4) (i j : Nat) (v : Q4) (hi : i < xs.length) : (xs.set i v).getD j q0 = if i = j then v else xs.getD j q0 := by
  simp only [List.getD_eq_getElem?_getD, List.getElem?_set]
  by_cases e : i = j
  · simp [e, show j < xs.length by omega]
  · simp [e]

/-- Of the blocks that were there none but rb has turned, and the row's own one is not rb. -/
theorem OwnQ.bar2 {w w' : World} {B rb : Nat} {v : Value} {xs : List Q4} (h : OwnQ w B v xs) (hb : Bar rb w w') (hr : rb < B) : OwnQ w' B v xs := by
  obtain ⟨h1, h2⟩ := h
  refine ⟨h1, ?_⟩
  rcases h2 with h2 | ⟨g, cap, cur, hv, hg, hh, r⟩
  · exact .inl h2
  · have := (Array.getElem?_eq_some_iff.1 hh).1
    exact .inr ⟨g, cap, cur, hv, hg, by rw [hb.block g this (by omega)]; exact hh, r⟩

theorem flat4_ext {xs : List Q4} {l : List Value} (hl : l.length = xs.length * 4) (h : ∀ i, i < xs.length → l[i * 4]? = some (.int .i64 (xs.getD i q0).1) ∧ l[i * 4 + 1]? = some (.int .i64 (xs.getD i q0).2.1) ∧ l[i * 4 + 2]? = some (.int .i64 (xs.getD i q0).2.2.1) ∧ l[i * 4 + 3]? = some (.int .i64 (xs.getD i q0).2.2.2)) : l = flat4 xs := by
  apply List.ext_getElem?
  intro j
  by_cases hj : j < xs.length * 4
  · have hk : j / 4 < xs.length := by omega
    have e1 := h (j / 4) hk
    have e2 := flat4_get xs (j / 4) hk
    have m : j % 4 = 0 ∨ j % 4 = 1 ∨ j % 4 = 2 ∨ j % 4 = 3 := by omega
    rcases m with m | m | m | m
    · rw [show j = j / 4 * 4 by omega, e1.1, e2.1]
    · rw [show j = j / 4 * 4 + 1 by omega, e1.2.1, e2.2.1]
    · rw [show j = j / 4 * 4 + 2 by omega, e1.2.2.1, e2.2.2.1]
    · rw [show j = j / 4 * 4 + 3 by omega, e1.2.2.2, e2.2.2.2]
  · rw [List.getElem?_eq_none (by omega), List.getElem?_eq_none (by rw [flat4_length]; omega)]

/-- A number of an instruction of such a slice, turned. -/
theorem OwnQ.set {w : World} {B g cap : Nat} {xs : List Q4} (h : OwnQ w B (.slice (some ⟨g, 0, none⟩) xs.length cap) xs) (i f : Nat) (hi : i < xs.length) (hf : f < 4) (n : Int) (q : Q4)
    (hq : q = (if f = 0 then n else (xs.getD i q0).1, if f = 1 then n else (xs.getD i q0).2.1, if f = 2 then n else (xs.getD i q0).2.2.1, if f = 3 then n else (xs.getD i q0).2.2.2)) :
    OwnQ (w.setCell ⟨g, i * 4 + f, none⟩ (.int .i64 n)) B (.slice (some ⟨g, 0, none⟩) xs.length cap) (xs.set i q) := by
  obtain ⟨h1, h2⟩ := h
  rcases h2 with ⟨hv, h0⟩ | ⟨g', cap', cur, hv, hg, hh, hmc, hml, hsz, htk⟩
  · omega
  injection hv with e1 e2 e3
  injection e1 with e1
  injection e1 with e1
  subst e1 e3
  have hl4 := flat4_length xs
  refine ⟨by rw [flat4_length], .inr ⟨g, cap, cur.setIfInBounds (i * 4 + f) (.int .i64 n), by rw [List.length_set], hg, ?_, by rw [List.length_set]; exact hmc, hml, by simpa using hsz, ?_⟩⟩
  · simp [World.setCell, Array.getElem?_modify, hh]
  · rw [List.length_set]
    apply flat4_ext
    · rw [List.length_set, List.length_take]
      simp
      omega
    · intro j hj
      rw [List.length_set] at hj
      have e := flat4_get xs j hj
      rw [← htk] at e
      rw [List.getElem?_take_of_lt (by omega), List.getElem?_take_of_lt (by omega), List.getElem?_take_of_lt (by omega), List.getElem?_take_of_lt (by omega)] at e
      simp only [Array.getElem?_toList] at e
      rw [List.getElem?_take_of_lt (by omega), List.getElem?_take_of_lt (by omega), List.getElem?_take_of_lt (by omega), List.getElem?_take_of_lt (by omega), getD_set4 _ _ _ _ hi]
      simp only [Array.getElem?_toList, Array.getElem?_setIfInBounds]
      by_cases hij : i = j
      · subst hij
        rw [if_pos rfl, hq]
        have b0 : i * 4 + f < cur.size := by omega
        match f, hf with
        | 0, _ => simp [e, b0, show ¬ (i * 4 = i * 4 + 1) by omega]; omega
        | 1, _ => simp [e, b0]
        | 2, _ => simp [e, b0]
        | 3, _ => simp [e, b0]
      · rw [if_neg hij, if_neg (by omega), if_neg (by omega), if_neg (by omega), if_neg (by omega)]
        exact e

/-- Every number of the instructions is small. -/
def SmQ (q : Q4) : Prop := (-2000000 ≤ q.1 ∧ q.1 ≤ 2000000) ∧ (-2000000 ≤ q.2.1 ∧ q.2.1 ≤ 2000000) ∧ (-2000000 ≤ q.2.2.1 ∧ q.2.2.1 ≤ 2000000) ∧ (-2000000 ≤ q.2.2.2 ∧ q.2.2.2 ≤ 2000000)
def Sm4 (xs : List Q4) : Prop := ∀ k, k < xs.length → SmQ (xs.getD k q0)
theorem Sm4.nil : Sm4 [] := fun k hk => by simp at hk
theorem Sm4.snoc {xs : List Q4} (h : Sm4 xs) {q : Q4} (hq : SmQ q) : Sm4 (xs ++ [q]) := by
  intro k hk
  simp at hk
  by_cases e : k < xs.length
  · have e2 : (xs ++ [q]).getD k q0 = xs.getD k q0 := by simp [List.getD, List.getElem?_append_left e]
    rw [e2]; exact h k e
  · have e2 : (xs ++ [q]).getD k q0 = q := by
      have : k = xs.length := by omega
      simp [List.getD, this]
    rw [e2]; exact hq
theorem Sm4.set {xs : List Q4} (h : Sm4 xs) (i : Nat) (hi : i < xs.length) {q : Q4} (hq : SmQ q) : Sm4 (xs.set i q) := by
  intro k hk
  rw [List.length_set] at hk
  rw [getD_set4 _ _ _ _ hi]
  by_cases e : i = k
  · rw [if_pos e]; exact hq
  · rw [if_neg e]; exact h k hk
end Go.Proofs.Ytfifiobcmdmefaa.Own

namespace Go.Proofs.Ytfifiobcmdmefaa.Own
open Go.RowKit
set_option linter.unusedVariables false
set_option linter.unusedSimpArgs false

theorem nums_newQ (w : World) (zs : List Int) (cs : Array Value) (t : TypeId) (h : cs = (zs.map (Value.int .i64)).toArray) : Nums (w.alloc (.cells cs t)) w.heap.size zs := by
  subst h
  refine ⟨by rw [size_new]; omega, fun i hi => ?_⟩
  rw [cell_heap (heap_new _ _)]
  simp [List.getD, hi]

/-- Four cells that may be written. -/
def F4 (w : World) (b : Nat) (x0 x1 x2 x3 : Value) : Prop := C4 w b x0 x1 x2 x3 ∧ ∀ o, w.frozen? ⟨b, o, none⟩ = false
theorem F4.new (w : World) (x0 x1 x2 x3 : Value) (t : TypeId) : F4 (w.alloc (.cells #[x0, x1, x2, x3] t)) w.heap.size x0 x1 x2 x3 := ⟨C4.new _ _ _ _ _ _, fun o => frozen_heap (heap_new _ _) o⟩
theorem F4.block {w w' : World} {b : Nat} {x0 x1 x2 x3 : Value} (h : F4 w b x0 x1 x2 x3) (hs : w.heap.size ≤ w'.heap.size) (hb : w'.heap[b]? = w.heap[b]?) : F4 w' b x0 x1 x2 x3 := by
  have e : ∀ o, w'.cell? ⟨b, o, none⟩ = w.cell? ⟨b, o, none⟩ := fun o => World.cell?_of_block (w := w) (a := ⟨b, o, none⟩) hb
  refine ⟨⟨Nat.lt_of_lt_of_le h.1.1 hs, ?_⟩, fun o => by rw [World.frozen?_of_block (w := w) (a := ⟨b, o, none⟩) hb]; exact h.2 o⟩
  rw [e, e, e, e]; exact h.1.2
theorem F4.only {w w' : World} {b c : Nat} {x0 x1 x2 x3 : Value} (h : F4 w b x0 x1 x2 x3) (ho : Only c w w') (hc : b ≠ c) : F4 w' b x0 x1 x2 x3 := h.block (Nat.le_of_eq ho.size.symm) (ho.block b hc)
theorem F4.alloc {w : World} {b : Nat} {x0 x1 x2 x3 : Value} (h : F4 w b x0 x1 x2 x3) (o : Obj) : F4 (w.alloc o) b x0 x1 x2 x3 := h.block (by rw [size_new]; omega) (heap_old w o b h.1.1)

theorem F4.far {w : World} {b c o : Nat} {x0 x1 x2 x3 : Value} (h : F4 w b x0 x1 x2 x3) (hc : b ≠ c) (v : Value) : F4 (w.setCell ⟨c, o, none⟩ v) b x0 x1 x2 x3 := h.only ((Only.refl c w).setCell _) hc
theorem F4.set1 {w : World} {b : Nat} {x0 x1 x2 x3 : Value} (h : F4 w b x0 x1 x2 x3) (v : Value) : F4 (w.setCell ⟨b, 1, none⟩ v) b x0 v x2 x3 :=
  ⟨⟨by simpa [World.setCell] using h.1.1, by rw [setCell_cell_other _ _ _ _ _ (by omega)]; exact h.1.2.1, setCell_cell_same _ _ _ _ _ h.1.2.2.1, by rw [setCell_cell_other _ _ _ _ _ (by omega)]; exact h.1.2.2.2.1, by rw [setCell_cell_other _ _ _ _ _ (by omega)]; exact h.1.2.2.2.2⟩, fun o => by simpa using h.2 o⟩
theorem F4.set2 {w : World} {b : Nat} {x0 x1 x2 x3 : Value} (h : F4 w b x0 x1 x2 x3) (v : Value) : F4 (w.setCell ⟨b, 2, none⟩ v) b x0 x1 v x3 :=
  ⟨⟨by simpa [World.setCell] using h.1.1, by rw [setCell_cell_other _ _ _ _ _ (by omega)]; exact h.1.2.1, by rw [setCell_cell_other _ _ _ _ _ (by omega)]; exact h.1.2.2.1, setCell_cell_same _ _ _ _ _ h.1.2.2.2.1, by rw [setCell_cell_other _ _ _ _ _ (by omega)]; exact h.1.2.2.2.2⟩, fun o => by simpa using h.2 o⟩

theorem smq {k a b n : Int} (h1 : -2000000 ≤ k ∧ k ≤ 2000000) (h2 : -2000000 ≤ a ∧ a ≤ 2000000) (h3 : -2000000 ≤ b ∧ b ≤ 2000000) (h4 : -2000000 ≤ n ∧ n ≤ 2000000) : SmQ (k, a, b, n) := ⟨h1, h2, h3, h4⟩

theorem six_small {v : Int} (h : v ∈ ([0, 1, 5, -2, 100, 1000000] : List Int)) : -2000000 ≤ v ∧ v ≤ 2000000 := by simp at h; omega
theorem ten_kinds {v : Int} (h : v ∈ ([1, 1, 2, 2, 3, 4, 4, 5, 6, 7] : List Int)) : 1 ≤ v ∧ v ≤ 7 := by simp at h; omega

set_option maxRecDepth 100000 in
set_option maxHeartbeats 4000000 in
theorem l2Any (rb B p : Nat) (w : World) (h : Rd w rb B p) (hp : p ≤ 2 ^ 30) :
    Calls Try.prog 130 #[.pointer (some ⟨rb, 0, none⟩)] w fun e w' => (∃ k a b n : Int, e = .returned (.agg #[.int .i64 k, .int .i64 a, .int .i64 b, .int .i64 n]) ∧ SmQ (k, a, b, n)) ∧ (∃ p', p' ≤ p + 10 ∧ Rd w' rb B p') ∧ Bar rb w w' := by
  have HR : Hid (Rd w rb B p) := h
  have hrb : rb < w.heap.size := Nat.lt_of_lt_of_le h.1 h.2.1
  have HBs : Hid (B ≤ w.heap.size) := h.2.1
  clear h
  have R0 : Hid (F4 (w.alloc (.cells #[.int .i64 0, .int .i64 0, .int .i64 0, .int .i64 0] 188)) w.heap.size (.int .i64 0) (.int .i64 0) (.int .i64 0) (.int .i64 0)) := F4.new _ _ _ _ _ _
  go_enter Try.func130, Try.ntmps130
  go_wp2_with fail
  refine (num rb B p (w.heap.size + 1) 10 10 [1, 1, 2, 2, 3, 4, 4, 5, 6, 7] _ ((HR.out.alloc _).alloc _) (by omega) (by have := nums_newQ (w.alloc (.cells #[.int .i64 0, .int .i64 0, .int .i64 0, .int .i64 0] 188)) [1, 1, 2, 2, 3, 4, 4, 5, 6, 7] _ 3 rfl; rw [size_new] at this; exact this) rfl (by omega) (by omega) (by omega)).mono ?_
  rintro e w1 ⟨⟨k, rfl, hk⟩, hR, hO⟩
  have HK : Hid (1 ≤ k ∧ k ≤ 7) := ten_kinds hk
  have R1 : Hid (F4 w1 w.heap.size (.int .i64 0) (.int .i64 0) (.int .i64 0) (.int .i64 0)) := (R0.out.alloc _).only hO (by omega)
  have D1 : Hid (Rd w1 rb B (p + 1)) := hR
  have B1 : Hid (Bar rb w w1) := (((Bar.refl rb w).alloc _).alloc _).trans (Bar.ofOnly hO)
  clear hk hR hO
  go_wp2_with fail
  refine (pick rb B (p + 1) 3 w1 D1.out (by omega) (by omega) (by omega)).mono ?_
  rintro e w2 ⟨⟨a, rfl, a0, a1⟩, hR, hO⟩
  have R2 : Hid (F4 w2 w.heap.size (.int .i64 0) (.int .i64 0) (.int .i64 0) (.int .i64 0)) := R1.out.only hO (by omega)
  have D2 : Hid (Rd w2 rb B (p + 1 + 1)) := hR
  have B2 : Hid (Bar rb w w2) := B1.out.trans (Bar.ofOnly hO)
  have HA : Hid (0 ≤ a ∧ a < 3) := ⟨a0, a1⟩
  clear hR hO a0 a1
  go_wp2_with fail
  refine (pick rb B (p + 1 + 1) 3 w2 D2.out (by omega) (by omega) (by omega)).mono ?_
  rintro e w3 ⟨⟨b, rfl, b0, b1⟩, hR, hO⟩
  obtain ⟨X, hX⟩ : ∃ X, X = w3.alloc (.cells #[.int .i64 k, .int .i64 a, .int .i64 b, .int .i64 0] 188) := ⟨_, rfl⟩
  have R3 : Hid (F4 X w.heap.size (.int .i64 0) (.int .i64 0) (.int .i64 0) (.int .i64 0)) := by show F4 _ _ _ _ _ _; rw [hX]; exact (R2.out.only hO (by omega)).alloc _
  have I3 : Hid (F4 X w3.heap.size (.int .i64 k) (.int .i64 a) (.int .i64 b) (.int .i64 0)) := by show F4 _ _ _ _ _ _; rw [hX]; exact F4.new _ _ _ _ _ _
  have D3 : Hid (Rd X rb B (p + 1 + 1 + 1)) := by show Rd _ _ _ _; rw [hX]; exact hR.alloc _
  have B3 : Hid (Bar rb w X) := by show Bar _ _ _; rw [hX]; exact (B2.out.trans (Bar.ofOnly hO)).alloc _
  have S3 : Hid (w.heap.size < w3.heap.size) := by
    show _ < _
    have h1 := R2.out.1.1
    have h2 := hO.size
    omega
  have HBb : Hid (0 ≤ b ∧ b < 3) := ⟨b0, b1⟩
  have HX : Hid (X = _) := hX
  clear hR hO b0 b1 hX
  have hrw : w.heap.size < w3.heap.size := S3.out
  have hBs := HBs.out
  obtain ⟨⟨_, i0, i1, i2, i3⟩, ifr⟩ := I3.out
  obtain ⟨⟨_, r0, r1, r2, r3⟩, rfr⟩ := R3.out
  go_upto_region 2 with fail
  rw [← HX.out]
  have EN : Hid (∀ (W : World) (p' : Nat), Rd W rb B p' → Bar rb w W → ∀ x0 x1 x2 x3 : Value, Rd ((((W.setCell ⟨w.heap.size, 0, none⟩ x0).setCell ⟨w.heap.size, 1, none⟩ x1).setCell ⟨w.heap.size, 2, none⟩ x2).setCell ⟨w.heap.size, 3, none⟩ x3) rb B p' ∧ Bar rb w ((((W.setCell ⟨w.heap.size, 0, none⟩ x0).setCell ⟨w.heap.size, 1, none⟩ x1).setCell ⟨w.heap.size, 2, none⟩ x2).setCell ⟨w.heap.size, 3, none⟩ x3)) := by
    intro W p' hR hB x0 x1 x2 x3
    exact ⟨(((hR.setCell (q := ⟨w.heap.size, 0, none⟩) hBs x0).setCell (q := ⟨w.heap.size, 1, none⟩) hBs x1).setCell (q := ⟨w.heap.size, 2, none⟩) hBs x2).setCell (q := ⟨w.heap.size, 3, none⟩) hBs x3, (((hB.setCell (Nat.le_refl _) _).setCell (Nat.le_refl _) _).setCell (Nat.le_refl _) _).setCell (Nat.le_refl _) _⟩
  have hIw : w.heap.size ≤ w3.heap.size := by omega
  have hIB : B ≤ w3.heap.size := by omega
  cases t3 : (k == 3) with
  | true =>
    have K3 : Hid (k = 3) := by show _ = _; simpa using t3
    obtain ⟨X1, hX1⟩ : ∃ X1, X1 = X.setCell ⟨w3.heap.size, 2, none⟩ (.int .i64 0) := ⟨_, rfl⟩
    have J1 : Hid (F4 X1 w3.heap.size (.int .i64 k) (.int .i64 a) (.int .i64 0) (.int .i64 0)) := by show F4 _ _ _ _ _ _; rw [hX1]; exact I3.out.set2 _
    have Q1 : Hid (F4 X1 w.heap.size (.int .i64 0) (.int .i64 0) (.int .i64 0) (.int .i64 0)) := by show F4 _ _ _ _ _ _; rw [hX1]; exact R3.out.far (by omega) _
    have E1 : Hid (Rd X1 rb B (p + 1 + 1 + 1)) := by show Rd _ _ _ _; rw [hX1]; exact D3.out.setCell (q := ⟨w3.heap.size, 2, none⟩) hIB _
    have A1 : Hid (Bar rb w X1) := by show Bar _ _ _; rw [hX1]; exact B3.out.setCell (p := ⟨w3.heap.size, 2, none⟩) hIw _
    have HX1 : Hid (X1 = _) := hX1
    clear hX1
    go_upto_region 5 with fail
    rw [← HX1.out]
    clear i0 i1 i2 i3 ifr r0 r1 r2 r3 rfr
    obtain ⟨⟨_, i0, i1, i2, i3⟩, ifr⟩ := J1.out
    obtain ⟨⟨_, r0, r1, r2, r3⟩, rfr⟩ := Q1.out
    go_wp2_with fail
    refine (num rb B (p + 1 + 1 + 1) X1.heap.size 6 6 [0, 1, 5, -2, 100, 1000000] _ (E1.out.alloc _) (by omega) (nums_newQ _ _ _ _ rfl) rfl (by omega) (by omega) (by have := A1.out.size; omega)).mono ?_
    rintro e w4 ⟨⟨n, rfl, hn⟩, hR, hO⟩
    have HN : Hid (-2000000 ≤ n ∧ n ≤ 2000000) := six_small hn
    have I4 := ((J1.out.alloc _).only hO (by omega))
    have R4 := ((Q1.out.alloc _).only hO (by omega))
    have D4 : Hid (Rd w4 rb B (p + 1 + 1 + 1 + 1)) := hR
    have B4 : Hid (Bar rb w w4) := (A1.out.alloc _).trans (Bar.ofOnly hO)
    clear hR hO hn i0 i1 i2 i3 ifr r0 r1 r2 r3 rfr
    obtain ⟨⟨_, i0, i1, i2, i3⟩, ifr⟩ := I4
    obtain ⟨⟨_, r0, r1, r2, r3⟩, rfr⟩ := R4
    go_wp2
    refine bodyPost_ret (v := .agg #[.int .i64 k, .int .i64 a, .int .i64 0, .int .i64 n]) (by simp [results, Try.results130, go_sem, r0, r1, r2, r3]) rfl ⟨⟨k, a, 0, n, rfl, ?_⟩, ?_⟩
    · have := HK.out; have := HA.out; have := HN.out
      exact smq (by omega) (by omega) (by omega) (by omega)
    · have h := EN.out (w4.setCell ⟨w3.heap.size, 3, none⟩ (.int .i64 n)) _ (D4.out.setCell (q := ⟨w3.heap.size, 3, none⟩) hIB _) (B4.out.setCell (p := ⟨w3.heap.size, 3, none⟩) hIw _) (.int .i64 k) (.int .i64 a) (.int .i64 0) (.int .i64 n)
      exact ⟨⟨_, by omega, h.1⟩, h.2⟩
  | false =>
    cases t6 : (k == 6) with
    | true =>
      go_wp2_with fail
      refine (pick rb B (p + 1 + 1 + 1) 3 X D3.out (by omega) (by omega) (by omega)).mono ?_
      rintro e w4 ⟨⟨n, rfl, n0, n1⟩, hR, hO⟩
      have I4 := (I3.out.only hO (by omega))
      have R4 := (R3.out.only hO (by omega))
      have D4 : Hid (Rd w4 rb B (p + 1 + 1 + 1 + 1)) := hR
      have B4 : Hid (Bar rb w w4) := B3.out.trans (Bar.ofOnly hO)
      clear hR hO i0 i1 i2 i3 ifr r0 r1 r2 r3 rfr
      obtain ⟨⟨_, i0, i1, i2, i3⟩, ifr⟩ := I4
      obtain ⟨⟨_, r0, r1, r2, r3⟩, rfr⟩ := R4
      go_wp2
      refine bodyPost_ret (v := .agg #[.int .i64 k, .int .i64 a, .int .i64 b, .int .i64 (1 + n)]) (by simp [results, Try.results130, go_sem, r0, r1, r2, r3]) rfl ⟨⟨k, a, b, 1 + n, rfl, ?_⟩, ?_⟩
      · have := HK.out; have := HA.out; have := HBb.out
        exact smq (by omega) (by omega) (by omega) (by omega)
      · have h := EN.out (w4.setCell ⟨w3.heap.size, 3, none⟩ (.int .i64 (1 + n))) _ (D4.out.setCell (q := ⟨w3.heap.size, 3, none⟩) hIB _) (B4.out.setCell (p := ⟨w3.heap.size, 3, none⟩) hIw _) (.int .i64 k) (.int .i64 a) (.int .i64 b) (.int .i64 (1 + n))
        exact ⟨⟨_, by omega, h.1⟩, h.2⟩
    | false =>
      cases t7 : (k == 7) with
      | true =>
        go_wp2_with fail
        refine (pick rb B (p + 1 + 1 + 1) 3 X D3.out (by omega) (by omega) (by omega)).mono ?_
        rintro e w4 ⟨⟨n, rfl, n0, n1⟩, hR, hO⟩
        have I4' : Hid _ := (I3.out.only hO (by omega))
        have R4' : Hid _ := (R3.out.only hO (by omega))
        have D4 : Hid (Rd w4 rb B (p + 1 + 1 + 1 + 1)) := hR
        have B4 : Hid (Bar rb w w4) := B3.out.trans (Bar.ofOnly hO)
        clear hR hO i0 i1 i2 i3 ifr r0 r1 r2 r3 rfr
        obtain ⟨⟨_, i0, i1, i2, i3⟩, ifr⟩ := I4'.out
        obtain ⟨⟨_, r0, r1, r2, r3⟩, rfr⟩ := R4'.out
        by_cases tn : 0 < n
        · go_wp2_with fail
          refine (pick rb B (p + 1 + 1 + 1 + 1) 4 w4 D4.out (by omega) (by omega) (by omega)).mono ?_
          rintro e w5 ⟨⟨x, rfl, x0, x1⟩, hR, hO⟩
          have R5' : Hid _ := (F4.only R4'.out hO (by omega))
          have D5 : Hid (Rd w5 rb B (p + 1 + 1 + 1 + 1 + 1)) := hR
          have B5 : Hid (Bar rb w w5) := B4.out.trans (Bar.ofOnly hO)
          clear hR hO i0 i1 i2 i3 ifr r0 r1 r2 r3 rfr
          go_wp2_with fail
          refine (pick rb B (p + 1 + 1 + 1 + 1 + 1) 4 w5 D5.out (by omega) (by omega) (by omega)).mono ?_
          rintro e w6 ⟨⟨y, rfl, y0, y1⟩, hR, hO⟩
          have R6 := (F4.only R5'.out hO (by omega))
          have D6 : Hid (Rd w6 rb B (p + 1 + 1 + 1 + 1 + 1 + 1)) := hR
          have B6 : Hid (Bar rb w w6) := B5.out.trans (Bar.ofOnly hO)
          clear hR hO
          obtain ⟨⟨_, r0, r1, r2, r3⟩, rfr⟩ := R6
          go_wp2
          refine bodyPost_ret (v := .agg #[.int .i64 4, .int .i64 x, .int .i64 y, .int .i64 0]) (by simp [results, Try.results130, go_sem, r0, r1, r2, r3]) rfl ⟨⟨4, x, y, 0, rfl, ?_⟩, ?_⟩
          · exact smq (by omega) (by omega) (by omega) (by omega)
          · have h := EN.out w6 _ D6.out B6.out (.int .i64 4) (.int .i64 x) (.int .i64 y) (.int .i64 0)
            exact ⟨⟨_, by omega, h.1⟩, h.2⟩
        · go_wp2
          refine bodyPost_ret (v := .agg #[.int .i64 k, .int .i64 0, .int .i64 0, .int .i64 0]) (by simp [results, Try.results130, go_sem, r0, r1, r2, r3]) rfl ⟨⟨k, 0, 0, 0, rfl, ?_⟩, ?_⟩
          · have := HK.out
            exact smq (by omega) (by omega) (by omega) (by omega)
          · have h := EN.out ((w4.setCell ⟨w3.heap.size, 1, none⟩ (.int .i64 0)).setCell ⟨w3.heap.size, 2, none⟩ (.int .i64 0)) _ ((D4.out.setCell (q := ⟨w3.heap.size, 1, none⟩) hIB _).setCell (q := ⟨w3.heap.size, 2, none⟩) hIB _) ((B4.out.setCell (p := ⟨w3.heap.size, 1, none⟩) hIw _).setCell (p := ⟨w3.heap.size, 2, none⟩) hIw _) (.int .i64 k) (.int .i64 0) (.int .i64 0) (.int .i64 0)
            exact ⟨⟨_, by omega, h.1⟩, h.2⟩
      | false =>
        go_wp2
        refine bodyPost_ret (v := .agg #[.int .i64 k, .int .i64 a, .int .i64 b, .int .i64 0]) (by simp [results, Try.results130, go_sem, r0, r1, r2, r3]) rfl ⟨⟨k, a, b, 0, rfl, ?_⟩, ?_⟩
        · have := HK.out; have := HA.out; have := HBb.out
          exact smq (by omega) (by omega) (by omega) (by omega)
        · have h := EN.out X _ D3.out B3.out (.int .i64 k) (.int .i64 a) (.int .i64 b) (.int .i64 0)
          exact ⟨⟨_, by omega, h.1⟩, h.2⟩
end Go.Proofs.Ytfifiobcmdmefaa.Own

namespace Go.Proofs.Ytfifiobcmdmefaa.Own
open Go.RowKit
set_option linter.unusedVariables false
set_option linter.unusedSimpArgs false

theorem flat4_one (xs : List Q4) : ∀ v ∈ flat4 xs, v.oneCell' = true := by
  intro v hv
  simp only [flat4, List.mem_flatMap] at hv
  obtain ⟨q, _, h⟩ := hv
  simp at h
  rcases h with rfl | rfl | rfl | rfl <;> rfl

theorem own_emptyQ (w : World) (N : Nat) (hN : w.heap.size = N) : (w.alloc (.cells #[] 188)).ownsRow N 188 4 (.slice (some ⟨N, 0, none⟩) 0 0) 0 [] := by
  subst hN
  exact ⟨rfl, .inr ⟨w.heap.size, 0, #[], rfl, Nat.le_refl _, heap_new _ _, Nat.le_refl _, by unfold maxLen; omega, rfl, rfl⟩⟩

/-- A reader's block alone, or a row's own, or new ones: what an append leaves. -/
theorem Bar.grown {rb : Nat} {a w w' : World} {row : Option Nat} (h : Bar rb a w) (hg : w.grownBy w' row) (hr : ∀ k, row = some k → a.heap.size ≤ k) : Bar rb a w' :=
  ⟨hg.os.trans h.os, hg.tape.trans h.tape, hg.output.trans h.output, Nat.le_trans h.size hg.size, fun k hk hn => by
    rw [hg.block k (Nat.lt_of_lt_of_le hk h.size) (fun e => by have := hr k e.symm; omega)]; exact h.block k hk hn⟩
theorem Rd.grown {w w' : World} {rb B p : Nat} {row : Option Nat} (h : Rd w rb B p) (hg : w.grownBy w' row) (hr : ∀ k, row = some k → B ≤ k) : Rd w' rb B p :=
  h.keep hg.size fun k hk => hg.block k (Nat.lt_of_lt_of_le hk h.2.1) (fun e => by have := hr k e.symm; omega)

theorem infoInsD : (Try.prog.info? 188).map (fun i => (i.zero, i.size, i.bytes)) = some (some (.agg #[.int .i64 0, .int .i64 0, .int .i64 0, .int .i64 0]), 4, 32) := by kernel_rfl

set_option maxRecDepth 100000 in
set_option maxHeartbeats 4000000 in
theorem l2Prog (rb B p : Nat) (w : World) (h : Rd w rb B p) (hp : p ≤ 2 ^ 29) :
    Calls Try.prog 96 #[.pointer (some ⟨rb, 0, none⟩)] w fun e w' => ∃ g cap xs, e = .returned (.slice (some ⟨g, 0, none⟩) xs.length cap) ∧ OwnQ w' w.heap.size (.slice (some ⟨g, 0, none⟩) xs.length cap) xs ∧ xs.length ≤ 7 ∧ Sm4 xs ∧ (∃ p', p' ≤ p + 100 ∧ Rd w' rb B p') ∧ Bar rb w w' := by
  have HR : Hid (Rd w rb B p) := h
  have hrb : rb < w.heap.size := Nat.lt_of_lt_of_le h.1 h.2.1
  have HBs : Hid (B ≤ w.heap.size) := h.2.1
  clear h
  go_enter Try.func96, Try.ntmps96
  go_wp2_with fail
  refine (pick rb B p 3 w HR.out (by omega) (by omega) (by omega)).mono ?_
  rintro e w1 ⟨⟨c, rfl, c0, c1⟩, hR, hO⟩
  have D1 : Hid (Rd w1 rb B (p + 1)) := hR
  have B1 : Hid (Bar rb w w1) := Bar.ofOnly hO
  clear hR hO
  cases t0 : (c == 0) with
  | true =>
    go_wp2_with fail
    refine (pick rb B (p + 1) 3 w1 D1.out (by omega) (by omega) (by omega)).mono ?_
    rintro e w2 ⟨⟨b, rfl, b0, b1⟩, hR, hO⟩
    have D2 : Hid (Rd w2 rb B (p + 1 + 1)) := hR
    have B2 : Hid (Bar rb w w2) := B1.out.trans (Bar.ofOnly hO)
    clear hR hO
    go_wp2_with fail
    refine (pick rb B (p + 1 + 1) 3 w2 D2.out (by omega) (by omega) (by omega)).mono ?_
    rintro e w3 ⟨⟨d, rfl, d0, d1⟩, hR, hO⟩
    have D3 : Hid (Rd w3 rb B (p + 1 + 1 + 1)) := hR
    have B3 : Hid (Bar rb w w3) := B2.out.trans (Bar.ofOnly hO)
    clear hR hO
    go_wp2_with fail
    refine (pick rb B (p + 1 + 1 + 1) 3 w3 D3.out (by omega) (by omega) (by omega)).mono ?_
    rintro e w4 ⟨⟨n, rfl, n0, n1⟩, hR, hO⟩
    have D4 : Hid (Rd w4 rb B (p + 1 + 1 + 1 + 1)) := hR
    have B4 : Hid (Bar rb w w4) := B3.out.trans (Bar.ofOnly hO)
    clear hR hO
    go_wp2
    go_ret
    refine ⟨w4.heap.size, 4, [(1, 0, b, 0), (3, 1, 0, 1 + n), (4, 0, 1, 0), (2, d, 0, 0)], rfl, ⟨rfl, .inr ⟨_, 4, _, rfl, B4.out.size, heap_new _ _, Nat.le_refl _, by unfold maxLen; decide, rfl, rfl⟩⟩, by simp, ?_, ⟨_, by omega, D4.out.alloc _⟩, B4.out.alloc _⟩
    intro k hk
    have : k < 4 := hk
    match k, this with
    | 0, _ => exact smq (by omega) (by omega) (by omega) (by omega)
    | 1, _ => exact smq (by omega) (by omega) (by omega) (by omega)
    | 2, _ => exact smq (by omega) (by omega) (by omega) (by omega)
    | 3, _ => exact smq (by omega) (by omega) (by omega) (by omega)
  | false =>
    go_wp2_with fail
    refine (pick rb B (p + 1) 8 _ (D1.out.alloc _) (by omega) (by omega) (by omega)).mono ?_
    rintro e w2 ⟨⟨m, rfl, m0, m1⟩, hR, hO⟩
    obtain ⟨m, rfl⟩ := Int.eq_ofNat_of_zero_le m0
    have OW : Hid (OwnQ w2 w.heap.size (.slice (some ⟨w1.heap.size, 0, none⟩) 0 0) []) := by
      have h : OwnQ (w1.alloc (.cells #[] 188)) w.heap.size (.slice (some ⟨w1.heap.size, 0, none⟩) 0 0) [] := OwnQ.lower (own_emptyQ w1 w1.heap.size rfl) B1.out.size
      exact h.bar2 (Bar.ofOnly hO) hrb
    have D2 : Hid (Rd w2 rb B (p + 1 + 1)) := hR
    have B2 : Hid (Bar rb w w2) := (B1.out.alloc _).trans (Bar.ofOnly hO)
    clear hR hO m0
    go_wp2_with fail
    go_loopw [5, 6] (fun v i wr => ∃ j g cap xs, j ≤ m ∧ i = .int .i64 (j : Nat) ∧ v = .slice (some ⟨g, 0, none⟩) xs.length cap ∧ OwnQ wr w.heap.size (.slice (some ⟨g, 0, none⟩) xs.length cap) xs ∧ xs.length + j = m ∧ Sm4 xs ∧ (∃ p', p' ≤ p + 2 + 10 * xs.length ∧ Rd wr rb B p') ∧ Bar rb w wr) (fun _ i _ => (intOf i).toNat)
    case atStart => exact ⟨m, w1.heap.size, 0, [], Nat.le_refl _, rfl, rfl, OW.out, by simp, Sm4.nil, ⟨_, by omega, D2.out⟩, B2.out⟩
    case round =>
      clear OW D2 B2
      obtain ⟨j, g, cap, xs, hj, rfl, rfl, hown, hxl, hsm, ⟨p', hp', hrd⟩, hbar⟩ := hrel
      have OW : Hid (OwnQ wr w.heap.size (.slice (some ⟨g, 0, none⟩) xs.length cap) xs) := hown
      have SM : Hid (Sm4 xs) := hsm
      have D2 : Hid (Rd wr rb B p') := hrd
      have B2 : Hid (Bar rb w wr) := hbar
      clear hown hsm hrd hbar
      by_cases hlt : 0 < j
      · obtain ⟨i0, hi, hz0, hz1, hz2⟩ := info_parts infoInsD
        have I0 : Hid (Try.prog.info? 188 = some i0 ∧ i0.zero = some (.agg #[.int .i64 0, .int .i64 0, .int .i64 0, .int .i64 0]) ∧ i0.size = 4 ∧ i0.bytes = 32) := ⟨hi, hz0, hz1, hz2⟩
        clear hi hz0 hz1 hz2
        go_wp2_with fail
        refine (l2Any rb B p' wr D2.out (by omega)).mono ?_
        rintro e w3 ⟨⟨k, a, b, n, rfl, hq⟩, ⟨p3, hp3, hrd⟩, hbar⟩
        have OW3 : Hid (OwnQ w3 w.heap.size (.slice (some ⟨g, 0, none⟩) xs.length cap) xs) := OW.out.bar2 hbar hrb
        have HQ : Hid (SmQ (k, a, b, n)) := hq
        have D3 : Hid (Rd w3 rb B p3) := hrd
        have B3 : Hid (Bar rb w w3) := B2.out.trans hbar
        clear hq hrd hbar
        go_wp2_with (at_builtin; refine wpList_append_lies _ rfl (.tmp 31) (.tmp 34) 102 rfl w.heap.size 188 i0 (.agg #[.int .i64 0, .int .i64 0, .int .i64 0, .int .i64 0]) 4 32 Try.underlying102 I0.out.1 I0.out.2.1 I0.out.2.2.1 I0.out.2.2.2 rfl (by decide) (.slice (some ⟨g, 0, none⟩) xs.length cap) xs.length (flat4 xs) rfl (OwnQ.keep OW3.out (below_new _ _)) ⟨w3.heap.size, 0, none⟩ 1 1 [.int .i64 k, .int .i64 a, .int .i64 b, .int .i64 n] rfl rfl (four_new _ _ _ _ _) (by simp [Value.oneCell']) (by decide) (by unfold maxLen; omega) (by omega) (by have := B3.out.size; rw [size_new]; omega) (w3.heap.size + 1) (size_new _ _) ?_)
        intro g4 cap4 w4 hown4 hgr hloc hg4
        have OW4 : Hid (OwnQ w4 w.heap.size (.slice (some ⟨g4, 0, none⟩) (xs ++ [(k, a, b, n)]).length cap4) (xs ++ [(k, a, b, n)])) := by
          show OwnQ _ _ _ _
          unfold OwnQ
          rw [List.length_append, flat4_snoc]
          exact hown4
        have hbk : w.heap.size ≤ g := by
          obtain ⟨_, h2⟩ := OW3.out
          rcases h2 with ⟨hv, _⟩ | ⟨g', _, _, hv, hg, _⟩
          · cases hv
          · injection hv with e1; injection e1 with e1; injection e1 with e1; omega
        have D4 : Hid (Rd w4 rb B p3) := (D3.out.alloc _).grown hgr (fun k hk => by simp only [Value.ownBlock] at hk; injection hk with hk; have := HBs.out; omega)
        have B4 : Hid (Bar rb w w4) := (B3.out.alloc _).grown hgr (fun k hk => by simp only [Value.ownBlock] at hk; injection hk with hk; omega)
        clear hown4 hgr hloc hg4 hbk
        go_wp2
        go_roundw
        case rel => exact ⟨j - 1, g4, cap4, xs ++ [(k, a, b, n)], by omega, by go_num, by simp, OW4.out, by simp; omega, SM.out.snoc HQ.out, ⟨_, by simp; omega, D4.out⟩, B4.out⟩
        case measure => simp [intOf]; omega
      · go_wp2
        go_ret
        exact ⟨g, cap, xs, rfl, OW.out, by omega, SM.out, ⟨_, by omega, D2.out⟩, B2.out⟩
end Go.Proofs.Ytfifiobcmdmefaa.Own

namespace Go.Proofs.Ytfifiobcmdmefaa.Own
open Go.RowKit
set_option linter.unusedVariables false
set_option linter.unusedSimpArgs false

theorem OwnP.ownC {t : TypeId} {w : World} {B : Nat} {v : Value} {xs : List P2} (h : OwnP t w B v xs) :
    ∃ a cap, v = .slice a xs.length cap ∧ OwnB w B a xs ∧ (∀ x, a = some x → v.ownBlock = some x.block ∧ B ≤ x.block ∧ x.block < w.heap.size) ∧ xs.length ≤ cap := by
  obtain ⟨a, cap, hv, _, hc, _, _⟩ := h.open
  obtain ⟨a', cap', hv', hs, hb⟩ := h.ownB
  have e : a = a' ∧ cap = cap' := by rw [hv] at hv'; injection hv' with e1 e2 e3; exact ⟨e1, e3⟩
  obtain ⟨rfl, rfl⟩ := e
  exact ⟨a, cap, hv, hs, hb, hc⟩
theorem RunPost.open2 {o : RunOut} {B : Nat} {e : Ending} {w : World} (h : RunPost o B e w) : ∃ a1 c1 a2 c2, e = .returned (.agg #[.slice a1 o.reads.length c1, .slice a2 o.puts.length c2, .int .i64 o.val, .int .i64 o.code]) ∧ RunB o B w a1 a2 ∧ o.reads.length ≤ c1 ∧ o.puts.length ≤ c2 := by
  obtain ⟨rv, pv, rfl, hr, hp, ha⟩ := h
  obtain ⟨a1, c1, e1, o1, f1, k1⟩ := hr.ownC
  obtain ⟨a2, c2, e2, o2, f2, k2⟩ := hp.ownC
  refine ⟨a1, c1, a2, c2, by rw [e1, e2], ⟨o1, o2, .inr (.inr fun g g' eg eg' e => ?_), fun x e => (f1 x e).2, fun x e => (f2 x e).2⟩, k1, k2⟩
  have h1 := (f1 _ eg).1
  have h2 := (f2 _ eg').1
  rcases ha with h | h
  · rw [h] at h1; cases h1
  · exact h (by rw [h1, h2, e])
theorem RunB.one {o : RunOut} {B : Nat} {w : World} {a1 a2 : Option Addr} (h : RunB o B w a1 a2) {c1 c2 : Nat} (k1 : o.reads.length ≤ c1) (k2 : o.puts.length ≤ c2) (z : Int) (n : Bool) (p q v k : Int) : OneOwn w B ⟨z, ⟨n, p, q, o.reads, o.puts, v, k⟩, a1, c1, a2, c2⟩ := by
  have f : ∀ (a : Option Addr) (m b : Nat), blkOf a m = some b → ∃ x, a = some x ∧ x.block = b := fun a m b e => by
    unfold blkOf at e
    split at e
    · cases e
    · simpa using e
  refine ⟨h.reads, h.puts, k1, k2, fun b e => ?_, fun b e => ?_, fun b e e2 => ?_⟩
  · obtain ⟨x, ex, rfl⟩ := f _ _ _ e; exact h.far1 x ex
  · obtain ⟨x, ex, rfl⟩ := f _ _ _ e; exact h.far2 x ex
  · rcases h.apart with h0 | h0 | h0
    · simp [blk1, blkOf, h0] at e
    · simp [blk2, blkOf, h0] at e2
    · obtain ⟨x, ex, hx⟩ := f _ _ _ e
      obtain ⟨y, ey, hy⟩ := f _ _ _ e2
      rcases h.reads with r | ⟨g, rfl, _, _⟩
      · simp [blk1, blkOf, r] at e
      · rcases h.puts with r | ⟨g', rfl, _, _⟩
        · simp [blk2, blkOf, r] at e2
        · injection ex with ex
          injection ey with ey
          exact h0 g g' rfl rfl (by rw [← ex] at hx; rw [← ey] at hy; simp only at hx hy; omega)
end Go.Proofs.Ytfifiobcmdmefaa.Own

namespace Go.Proofs.Ytfifiobcmdmefaa.Own
open Go.RowKit
set_option linter.unusedVariables false
set_option linter.unusedSimpArgs false

/-- An entry on its way: in block eb, its lists of one's own. -/
def AnyCut (rb B r0 : Nat) (w w5 : World) (lo : Nat) (R : RunOut) (a1 a2 : Option Addr) (d1 d2 : Nat) (wx : World) : Prop :=
  ∃ n p q k p', Blk wx w5.heap.size #[.bool n, .int .i64 p, .int .i64 q, .slice a1 R.reads.length d1, .slice a2 R.puts.length d2, .int .i64 R.val, .int .i64 k] 33 ∧ Blk wx w.heap.size #[.bool false, .int .i64 0, .int .i64 0, .slice none 0 0, .slice none 0 0, .int .i64 0, .int .i64 0] 33 ∧ OneOwn wx lo ⟨0, ⟨false, 0, 0, R.reads, R.puts, R.val, R.code⟩, a1, d1, a2, d2⟩ ∧ p' ≤ r0 + 200 ∧ Rd wx rb B p' ∧ Bar rb w wx
theorem OneOwn.as {w : World} {B : Nat} {xs ys : List P2} {a1 a2 : Option Addr} {d1 d2 : Nat} {z p q v k : Int} {n : Bool} (h : OneOwn w B ⟨z, ⟨n, p, q, xs, ys, v, k⟩, a1, d1, a2, d2⟩) (z' p' q' v' k' : Int) (n' : Bool) : OneOwn w B ⟨z', ⟨n', p', q', xs, ys, v', k'⟩, a1, d1, a2, d2⟩ :=
  ⟨h.l1, h.l2, h.c1, h.c2, h.b1, h.b2, h.ap⟩
/-- An entry that was drawn: its lists of one's own, at most four boxes each. -/
def AnyE (w : World) (B : Nat) (y : VM) : Prop := OneOwn w B y ∧ y.b.xs.length ≤ 4 ∧ y.b.ys.length ≤ 4

theorem Blk.only1 {w w' : World} {b c : Nat} {C : Array Value} {t : TypeId} (h : Blk w b C t) (ho : Only c w w') (hc : b ≠ c) : Blk w' b C t := by
  unfold Blk at *
  rw [ho.block b hc]; exact h
theorem Blk.bar1 {w w' : World} {b c : Nat} {C : Array Value} {t : TypeId} (h : Blk w b C t) (ho : Bar c w w') (hc : b ≠ c) : Blk w' b C t := by
  have := h.lt
  unfold Blk at *
  rw [ho.block b this hc]; exact h
theorem Blk.set7 {w : World} {b : Nat} {y0 y1 y2 y3 y4 y5 y6 : Value} {t : TypeId} (h : Blk w b #[y0, y1, y2, y3, y4, y5, y6] t) (x0 x1 x2 x3 x4 x5 x6 : Value) :
    Blk (((((((w.setCell ⟨b, 0, none⟩ x0).setCell ⟨b, 1, none⟩ x1).setCell ⟨b, 2, none⟩ x2).setCell ⟨b, 3, none⟩ x3).setCell ⟨b, 4, none⟩ x4).setCell ⟨b, 5, none⟩ x5).setCell ⟨b, 6, none⟩ x6) b #[x0, x1, x2, x3, x4, x5, x6] t :=
  (((((((h.set 0 x0).set 1 x1).set 2 x2).set 3 x3).set 4 x4).set 5 x5).set 6 x6).eq (by simp)
/-- Seven stores into one block. -/
def W7 (w : World) (b : Nat) (x0 x1 x2 x3 x4 x5 x6 : Value) : World := ((((((w.setCell ⟨b, 0, none⟩ x0).setCell ⟨b, 1, none⟩ x1).setCell ⟨b, 2, none⟩ x2).setCell ⟨b, 3, none⟩ x3).setCell ⟨b, 4, none⟩ x4).setCell ⟨b, 5, none⟩ x5).setCell ⟨b, 6, none⟩ x6
theorem W7.only (w : World) (b : Nat) (x0 x1 x2 x3 x4 x5 x6 : Value) : Only b w (W7 w b x0 x1 x2 x3 x4 x5 x6) :=
  (((((((Only.refl b w).setCell _).setCell _).setCell _).setCell _).setCell _).setCell _).setCell _
theorem Rd.w7 {w : World} {rb B p : Nat} (h : Rd w rb B p) {b : Nat} (hb : B ≤ b) (x0 x1 x2 x3 x4 x5 x6 : Value) : Rd (W7 w b x0 x1 x2 x3 x4 x5 x6) rb B p :=
  h.keep (Nat.le_of_eq (W7.only w b x0 x1 x2 x3 x4 x5 x6).size.symm) fun k hk => (W7.only w b x0 x1 x2 x3 x4 x5 x6).block k (by omega)
theorem Bar.w7 {a w : World} {rb : Nat} (h : Bar rb a w) {b : Nat} (hb : a.heap.size ≤ b) (x0 x1 x2 x3 x4 x5 x6 : Value) : Bar rb a (W7 w b x0 x1 x2 x3 x4 x5 x6) := by
  have o := W7.only w b x0 x1 x2 x3 x4 x5 x6
  exact ⟨o.os.trans h.os, o.tape.trans h.tape, o.output.trans h.output, Nat.le_trans h.size (Nat.le_of_eq o.size.symm), fun k hk hn => by rw [o.block k (by omega)]; exact h.block k hk hn⟩
theorem OneOwn.only {w w' : World} {B c : Nat} {y : VM} (h : OneOwn w B y) (ho : Only c w w') (hc : c < B) : OneOwn w' B y :=
  h.blkV (Nat.le_of_eq ho.size.symm) fun b hb => ho.block b (by rcases hb with hb | hb; · have := (h.b1 b hb).1; omega
                                                                · have := (h.b2 b hb).1; omega)
theorem OneOwn.allocV {w : World} {B : Nat} {y : VM} (h : OneOwn w B y) (o : Obj) : OneOwn (w.alloc o) B y :=
  h.blkV (by rw [size_new]; omega) fun b hb => heap_old w o b (by rcases hb with hb | hb; · exact (h.b1 b hb).2
                                                                  · exact (h.b2 b hb).2)
theorem OneOwn.off {w w' : World} {B c : Nat} {y : VM} (h : OneOwn w B y) (ho : Only c w w') (hc : ∀ b, (blk1 y = some b ∨ blk2 y = some b) → b ≠ c) : OneOwn w' B y :=
  h.blkV (Nat.le_of_eq ho.size.symm) fun b hb => ho.block b (hc b hb)
theorem OneOwn.nothing (w : World) (B : Nat) (z : Int) (n : Bool) (p q v k : Int) : OneOwn w B ⟨z, ⟨n, p, q, [], [], v, k⟩, .none, 0, .none, 0⟩ :=
  ⟨.inl rfl, .inl rfl, Nat.le_refl _, Nat.le_refl _, fun b e => by simp [blk1, blkOf] at e, fun b e => by simp [blk2, blkOf] at e, fun b e => by simp [blk1, blkOf] at e⟩
theorem Sl.bar {w w' : World} {rb : Nat} {a : Option Addr} {xs : List P2} (h : Sl w a xs) (hb : Bar rb w w') (hn : ∀ x, a = some x → xs ≠ [] → x.block ≠ rb) : Sl w' a xs := by
  rcases h with h | ⟨b, off, rfl, h⟩
  · exact .inl h
  · by_cases he : xs = []
    · exact .inl he
    · exact .inr ⟨b, off, rfl, hb.at h (hn _ rfl he)⟩

set_option maxRecDepth 100000 in
set_option maxHeartbeats 2000000 in
theorem l5Any (rb B r0 : Nat) (la : Option Addr) (lc : Nat) (bs : List P2) (w : World) (h : Rd w rb B r0) (hp : r0 ≤ 2 ^ 28) (hb : Sl w la bs) (hn : ∀ x, la = some x → bs ≠ [] → x.block ≠ rb) (l1 : bs.length ≤ 2 ^ 40) :
    Calls Try.prog 45 #[.pointer (some ⟨rb, 0, none⟩), .slice la bs.length lc] w fun e w' => ∃ y : VM, e = .returned (.agg y.ecells) ∧ AnyE w' w.heap.size y ∧ (∃ p', p' ≤ r0 + 200 ∧ Rd w' rb B p') ∧ Bar rb w w' := by
  have HB : Hid (Sl w la bs) := hb
  have HN : Hid (∀ x, la = some x → bs ≠ [] → x.block ≠ rb) := hn
  have hrb : rb < w.heap.size := Nat.lt_of_lt_of_le h.1 h.2.1
  have HBs : Hid (B ≤ w.heap.size) := h.2.1
  obtain ⟨Z, hZ⟩ : ∃ Z, Z = w.alloc (.cells #[.bool false, .int .i64 0, .int .i64 0, .slice none 0 0, .slice none 0 0, .int .i64 0, .int .i64 0] 33) := ⟨_, rfl⟩
  have BZ : Hid (Below w.heap.size w Z) := by show Below _ _ _; rw [hZ]; exact (Below.refl _ _).alloc (Nat.le_refl _) _
  have ZB : Hid (Blk Z w.heap.size #[.bool false, .int .i64 0, .int .i64 0, .slice none 0 0, .slice none 0 0, .int .i64 0, .int .i64 0] 33) := by show Blk _ _ _ _; rw [hZ]; exact Blk.new _ _ _
  have DZ : Hid (Rd Z rb B r0) := by show Rd _ _ _ _; rw [hZ]; exact h.alloc _
  have HZ : Hid (Z = _) := hZ
  clear h hb hn hZ
  go_enter Try.func45, Try.ntmps45
  go_upto_region 1 with fail
  rw [← HZ.out]
  go_wp2_with fail
  refine (pick rb B r0 8 Z DZ.out (by omega) (by omega) (by omega)).mono ?_
  rintro e w1 ⟨⟨c0, rfl, _, _⟩, hR, hO⟩
  have D1 : Hid (Rd w1 rb B (r0 + 1)) := hR
  have A1 : Hid (Bar rb w w1) := (Bar.ofBelow BZ.out).trans (Bar.ofOnly hO)
  have Z1 : Hid (Blk w1 w.heap.size #[.bool false, .int .i64 0, .int .i64 0, .slice none 0 0, .slice none 0 0, .int .i64 0, .int .i64 0] 33) := by
    show Blk _ _ _ _
    unfold Blk
    rw [hO.block _ (by omega)]; exact ZB.out
  clear hR hO
  cases t0 : (c0 == 0) with
  | true =>
    obtain ⟨z0, z1, z2, z3, z4, z5, z6⟩ := Z1.out.cells7
    have fz := Z1.out.frozen
    go_wp2_with fail
    obtain ⟨d0, d1, d2, d3, d4, d5, d6⟩ := (Z1.out.set7 (.bool true) (.int .i64 0) (.int .i64 0) (.slice none 0 0) (.slice none 0 0) (.int .i64 0) (.int .i64 0)).cells7
    refine bodyPost_ret (v := .agg #[.bool true, .int .i64 0, .int .i64 0, .slice none 0 0, .slice none 0 0, .int .i64 0, .int .i64 0]) (by simp [results, Try.results45, go_sem, d0, d1, d2, d3, d4, d5, d6]) rfl ?_
    exact ⟨⟨0, ⟨true, 0, 0, [], [], 0, 0⟩, none, 0, none, 0⟩, rfl, ⟨OneOwn.nothing _ _ _ _ _ _ _ _, Nat.zero_le _, Nat.zero_le _⟩, ⟨r0 + 1, by omega, D1.out.w7 HBs.out _ _ _ _ _ _ _⟩, A1.out.w7 (Nat.le_refl _) _ _ _ _ _ _ _⟩
  | false =>
    go_wp2_with fail
    refine (pick rb B (r0 + 1) 3 w1 D1.out (by omega) (by omega) (by omega)).mono ?_
    rintro e w2 ⟨⟨c1, rfl, _, _⟩, hR, hO⟩
    have D2 : Hid (Rd w2 rb B (r0 + 1 + 1)) := hR
    have A2 : Hid (Bar rb w w2) := A1.out.trans (Bar.ofOnly hO)
    have Z2 : Hid (Blk w2 w.heap.size #[.bool false, .int .i64 0, .int .i64 0, .slice none 0 0, .slice none 0 0, .int .i64 0, .int .i64 0] 33) := Z1.out.only1 hO (by omega)
    clear hR hO Z1 A1 D1
    go_wp2_with fail
    refine (pick rb B (r0 + 1 + 1) 6 w2 D2.out (by omega) (by omega) (by omega)).mono ?_
    rintro e w3 ⟨⟨c2, rfl, _, _⟩, hR, hO⟩
    have D3 : Hid (Rd w3 rb B (r0 + 1 + 1 + 1)) := hR
    have A3 : Hid (Bar rb w w3) := A2.out.trans (Bar.ofOnly hO)
    have Z3 : Hid (Blk w3 w.heap.size #[.bool false, .int .i64 0, .int .i64 0, .slice none 0 0, .slice none 0 0, .int .i64 0, .int .i64 0] 33) := Z2.out.only1 hO (by omega)
    clear hR hO Z2 A2 D2
    go_wp2_with fail
    refine (l2Prog rb B (r0 + 1 + 1 + 1) w3 D3.out (by omega)).mono ?_
    rintro e w4 ⟨g, cap, xs, rfl, hq, hl, _, ⟨p4, hp4, hR⟩, hbr⟩
    have D4 : Hid (Rd w4 rb B p4) := hR
    have A4 : Hid (Bar rb w w4) := A3.out.trans hbr
    have Z4 : Hid (Blk w4 w.heap.size #[.bool false, .int .i64 0, .int .i64 0, .slice none 0 0, .slice none 0 0, .int .i64 0, .int .i64 0] 33) := Z3.out.bar1 hbr (by omega)
    have Q4' : Hid (Sl4 w4 (some ⟨g, 0, none⟩) xs) := by
      obtain ⟨a, c, e, s, _⟩ := hq.open
      injection e with e1 e2 e3
      rw [e1]; exact s
    clear hR hq hbr Z3 A3 D3
    have B4 : Hid (Sl w4 la bs) := Sl.bar HB.out A4.out HN.out
    go_wp2_with fail
    refine (specRun la (some ⟨g, 0, none⟩) lc cap bs xs w4 B4.out Q4'.out l1 (by omega)).mono ?_
    rintro e w5 ⟨hrun, hb5⟩
    have F := execRun_four bs xs
    obtain ⟨a1, d1, a2, d2, rfl, hown, k1, k2⟩ := hrun.open2
    have D5 : Hid (Rd w5 rb B p4) := D4.out.below hb5
    have A5 : Hid (Bar rb w w5) := A4.out.trans (Bar.ofBelow hb5)
    have Z5 : Hid (Blk w5 w.heap.size #[.bool false, .int .i64 0, .int .i64 0, .slice none 0 0, .slice none 0 0, .int .i64 0, .int .i64 0] 33) := Z4.out.keep hb5
    have OWN : Hid (RunB (execRun bs xs) w4.heap.size w5 a1 a2) := hown
    have L4 : Hid (w.heap.size < w4.heap.size) := Z4.out.lt
    have S45 : Hid (w.heap.size ≤ w4.heap.size ∧ w4.heap.size ≤ w5.heap.size) := ⟨A4.out.size, hb5.size⟩
    clear hown hb5 hrun Z4 A4 D4 Q4' B4
    have R5 : Hid (∃ R, R = execRun bs xs) := ⟨_, rfl⟩
    obtain ⟨R, hR5⟩ := R5.out
    rw [← hR5] at F k1 k2 OWN ⊢
    have KK : Hid (R.reads.length ≤ d1 ∧ R.puts.length ≤ d2 ∧ R.reads.length ≤ 4 ∧ R.puts.length ≤ 4) := ⟨k1, k2, F⟩
    clear hR5 F k1 k2 R5
    have YY : Hid (OneOwn w5 w4.heap.size ⟨0, ⟨false, 0, 0, R.reads, R.puts, R.val, R.code⟩, a1, d1, a2, d2⟩) := OWN.out.one KK.out.1 KK.out.2.1 0 false 0 0 R.val R.code
    clear OWN
    go_wp2_with fail
    refine (pick rb B p4 40 _ (D5.out.alloc _) (by omega) (by omega) (by omega)).mono ?_
    rintro e w6 ⟨⟨c3, rfl, _, _⟩, hR, hO⟩
    have D6 : Hid (Rd w6 rb B (p4 + 1)) := hR
    have S56 : Hid (w5.heap.size < w6.heap.size) := by show _ < _; rw [hO.size, size_new]; omega
    have A6 : Hid (Bar rb w w6) := (A5.out.alloc _).trans (Bar.ofOnly hO)
    have Z6 : Hid (Blk w6 w.heap.size #[.bool false, .int .i64 0, .int .i64 0, .slice none 0 0, .slice none 0 0, .int .i64 0, .int .i64 0] 33) := (Z5.out.alloc _).only1 hO (by omega)
    have E6 : Hid (Blk w6 w5.heap.size #[.bool false, .int .i64 c1, .int .i64 (1 + c2), .slice a1 R.reads.length d1, .slice a2 R.puts.length d2, .int .i64 R.val, .int .i64 R.code] 33) := (Blk.new w5 _ _).only1 hO (by have := S45.out; omega)
    have Y6 : Hid (OneOwn w6 w4.heap.size ⟨0, ⟨false, 0, 0, R.reads, R.puts, R.val, R.code⟩, a1, d1, a2, d2⟩) := (YY.out.allocV _).only hO (by have := S45.out; omega)
    have F6 : Hid (∀ b, (blk1 ⟨0, ⟨false, 0, 0, R.reads, R.puts, R.val, R.code⟩, a1, d1, a2, d2⟩ = some b ∨ blk2 ⟨0, ⟨false, 0, 0, R.reads, R.puts, R.val, R.code⟩, a1, d1, a2, d2⟩ = some b) → b ≠ w5.heap.size) := by
      intro b hb
      have : b < w5.heap.size := by
        rcases hb with hb | hb
        · exact (YY.out.b1 b hb).2
        · exact (YY.out.b2 b hb).2
      omega
    have NE : Hid (w.heap.size ≠ w5.heap.size) := by have := S45.out; have := Z5.out.lt; show _ ≠ _; omega
    have GE : Hid (w.heap.size ≤ w5.heap.size) := Nat.le_trans S45.out.1 S45.out.2
    clear hR hO D5 A5 Z5 YY
    go_upto_block 0 with fail
    go_cut [] from 23 to 36 (fun wx => AnyCut rb B r0 w w5 w4.heap.size R a1 a2 d1 d2 wx)
    case first =>
      cases t1 : (c3 == 0) with
      | true =>
        go_wp2_with fail
        refine (num rb B (p4 + 1) w6.heap.size 2 2 [0, 1001] _ (D6.out.alloc _) (by omega) (nums_newQ _ _ _ _ rfl) rfl (by omega) (by omega) (by have := A6.out.size; omega)).mono ?_
        rintro e w7 ⟨⟨c4, rfl, _⟩, hR, hO⟩
        have D7 : Hid (Rd w7 rb B (p4 + 1 + 1)) := hR
        have A7 : Hid (Bar rb w w7) := (A6.out.alloc _).trans (Bar.ofOnly hO)
        have Z7 : Hid (Blk w7 w.heap.size #[.bool false, .int .i64 0, .int .i64 0, .slice none 0 0, .slice none 0 0, .int .i64 0, .int .i64 0] 33) := (Z6.out.alloc _).only1 hO (by omega)
        have E7 : Hid (Blk w7 w5.heap.size #[.bool false, .int .i64 c1, .int .i64 (1 + c2), .slice a1 R.reads.length d1, .slice a2 R.puts.length d2, .int .i64 R.val, .int .i64 R.code] 33) := (E6.out.alloc _).only1 hO (by have := GE.out; omega)
        have Y7 : Hid (OneOwn w7 w4.heap.size ⟨0, ⟨false, 0, 0, R.reads, R.puts, R.val, R.code⟩, a1, d1, a2, d2⟩) := (Y6.out.allocV _).only hO (by have := S45.out; omega)
        clear hR hO D6 A6 Z6 E6 Y6
        obtain ⟨e0, e1, e2, e3, e4, e5, e6⟩ := E7.out.cells7
        have fe := E7.out.frozen
        go_wp2_with fail
        go_meet
        exact ⟨false, c1, c4, R.code, p4 + 1 + 1, (E7.out.set 2 _).eq (by simp), Z7.out.other NE.out _ _, Y7.out.off ((Only.refl _ _).setCell _) F6.out, by omega, D7.out.setCell (Nat.le_trans HBs.out GE.out) _, A7.out.setCell GE.out _⟩
      | false =>
        cases t2 : (c3 == 1) with
        | true =>
          obtain ⟨e0, e1, e2, e3, e4, e5, e6⟩ := E6.out.cells7
          have fe := E6.out.frozen
          go_wp2_with fail
          go_meet
          exact ⟨true, c1, 1 + c2, R.code, p4 + 1, (E6.out.set 0 _).eq (by simp), Z6.out.other NE.out _ _, Y6.out.off ((Only.refl _ _).setCell _) F6.out, by omega, D6.out.setCell (Nat.le_trans HBs.out GE.out) _, A6.out.setCell GE.out _⟩
        | false =>
          cases t3 : (c3 == 2) with
          | true =>
            obtain ⟨e0, e1, e2, e3, e4, e5, e6⟩ := E6.out.cells7
            have fe := E6.out.frozen
            go_wp2_with fail
            go_meet
            exact ⟨false, c1, 1 + c2, 3, p4 + 1, (E6.out.set 6 _).eq (by simp), Z6.out.other NE.out _ _, Y6.out.off ((Only.refl _ _).setCell _) F6.out, by omega, D6.out.setCell (Nat.le_trans HBs.out GE.out) _, A6.out.setCell GE.out _⟩
          | false =>
            go_wp2_with fail
            go_meet
            exact ⟨false, c1, 1 + c2, R.code, p4 + 1, E6.out, Z6.out, Y6.out, by omega, D6.out, A6.out⟩
    case rest =>
      clear Z6 E6 Y6 D6 A6
      obtain ⟨n, p, q, k, p', hE, hZ, hY, hp', hD, hA⟩ := hcut
      have E6 : Hid (Blk wc w5.heap.size #[.bool n, .int .i64 p, .int .i64 q, .slice a1 R.reads.length d1, .slice a2 R.puts.length d2, .int .i64 R.val, .int .i64 k] 33) := hE
      have Z6 : Hid (Blk wc w.heap.size #[.bool false, .int .i64 0, .int .i64 0, .slice none 0 0, .slice none 0 0, .int .i64 0, .int .i64 0] 33) := hZ
      have Y6 : Hid (OneOwn wc w4.heap.size ⟨0, ⟨false, 0, 0, R.reads, R.puts, R.val, R.code⟩, a1, d1, a2, d2⟩) := hY
      have D6 : Hid (Rd wc rb B p') := hD
      have A6 : Hid (Bar rb w wc) := hA
      clear hE hZ hY hD hA
      obtain ⟨e0, e1, e2, e3, e4, e5, e6⟩ := E6.out.cells7
      obtain ⟨z0, z1, z2, z3, z4, z5, z6⟩ := Z6.out.cells7
      have fz := Z6.out.frozen
      go_wp2_with fail
      obtain ⟨d0, d1', d2', d3, d4, d5, d6⟩ := (Z6.out.set7 (.bool n) (.int .i64 p) (.int .i64 q) (.slice a1 R.reads.length d1) (.slice a2 R.puts.length d2) (.int .i64 R.val) (.int .i64 k)).cells7
      refine bodyPost_ret (v := .agg #[.bool n, .int .i64 p, .int .i64 q, .slice a1 R.reads.length d1, .slice a2 R.puts.length d2, .int .i64 R.val, .int .i64 k]) (by simp [results, Try.results45, go_sem, d0, d1', d2', d3, d4, d5, d6]) rfl ?_
      have N : Hid (∀ b, (blk1 ⟨0, ⟨false, 0, 0, R.reads, R.puts, R.val, R.code⟩, a1, d1, a2, d2⟩ = some b ∨ blk2 ⟨0, ⟨false, 0, 0, R.reads, R.puts, R.val, R.code⟩, a1, d1, a2, d2⟩ = some b) → b ≠ w.heap.size) := by
        intro b hb
        have := S45.out.1
        have : w4.heap.size ≤ b := by
          rcases hb with hb | hb
          · exact (Y6.out.b1 b hb).1
          · exact (Y6.out.b2 b hb).1
        have := L4.out
        omega
      exact ⟨⟨0, ⟨n, p, q, R.reads, R.puts, R.val, k⟩, a1, d1, a2, d2⟩, rfl, ⟨((Y6.out.off (W7.only wc w.heap.size _ _ _ _ _ _ _) N.out).low S45.out.1).as _ _ _ _ _ _, KK.out.2.2.1, KK.out.2.2.2⟩, ⟨p', hp', D6.out.w7 HBs.out _ _ _ _ _ _ _⟩, A6.out.w7 (Nat.le_refl _) _ _ _ _ _ _ _⟩
/-- The same, cell by cell. -/
theorem l5AnyX (rb B r0 : Nat) (la : Option Addr) (lc : Nat) (bs : List P2) (w : World) (h : Rd w rb B r0) (hp : r0 ≤ 2 ^ 28) (hb : Sl w la bs) (hn : ∀ x, la = some x → bs ≠ [] → x.block ≠ rb) (l1 : bs.length ≤ 2 ^ 40) :
    Calls Try.prog 45 #[.pointer (some ⟨rb, 0, none⟩), .slice la bs.length lc] w fun e w' => ∃ n p q a1 d1 xs a2 d2 ys v k, e = .returned (.agg #[.bool n, .int .i64 p, .int .i64 q, .slice a1 (List.length (α := P2) xs) d1, .slice a2 (List.length (α := P2) ys) d2, .int .i64 v, .int .i64 k]) ∧ OneOwn w' w.heap.size ⟨0, ⟨n, p, q, xs, ys, v, k⟩, a1, d1, a2, d2⟩ ∧ (xs.length ≤ 4 ∧ ys.length ≤ 4) ∧ (∃ p', p' ≤ r0 + 200 ∧ Rd w' rb B p') ∧ Bar rb w w' :=
  (l5Any rb B r0 la lc bs w h hp hb hn l1).mono fun e w' ⟨⟨z, ⟨n, p, q, xs, ys, v, k⟩, a1, d1, a2, d2⟩, he, ⟨ho, h1, h2⟩, hr, hbr⟩ =>
    ⟨n, p, q, a1, d1, xs, a2, d2, ys, v, k, he, ho.as _ _ _ _ _ _, ⟨h1, h2⟩, hr, hbr⟩
end Go.Proofs.Ytfifiobcmdmefaa.Own

namespace Go.Proofs.Ytfifiobcmdmefaa.Own
open Go.RowKit
set_option linter.unusedVariables false
set_option linter.unusedSimpArgs false

theorem step_append_void {P : Program} {ops : Array Oper} {o : Oper} {a : Act} {w : World} {K : Act → World → Prop} {Q : Exit → Act → World → Prop} {E : Prop} (hgd : o.guard = none) (s x : Operand) (t : TypeId)
    (ho : o.op = .call { callee := .builtin .append, args := #[s, x], argTypes := #[t, t] }) (e : TypeId) (i : TypeInfo) (ht : P.underlying t = some (.slice e)) (hi : P.info? e = some i)
    (g : Addr) (hs : a.eval s = .slice (some g) 0 0) (ad : Option Addr) (c : Nat) (hx : a.eval x = .slice ad 0 c) (h : K (a.put o.dst (.slice (some g) 0 0)) w) :
    if Region.wanted o (yielded ops a.tmps) = true then Oper.wp P o a w K Q else E := by
  have hw : Region.wanted o (yielded ops a.tmps) = true := by simp [Region.wanted, hgd]
  rw [if_pos hw]
  have hsrc : Src P i.size t (.slice ad 0 c) 0 [] w := by
    cases ad with
    | none => exact Src.ofNil w ht c
    | some ad => exact Src.ofSlice w ht ad 0 c [] (by simp) (fun j u h => by simp at h) (fun u h => by simp at h)
  have hr := run_append_nothing w t t o.type e i ht hi (some g) 0 0 (Nat.le_refl _) _ hsrc
  unfold Oper.wp execOp
  simp only [ho, resolve, invoke, builtin, Sem.run_bind, Sem.run_pure, Result.andThen_ok, List.map_toArray, List.map_cons, List.map_nil, hs, hx, hr]
  exact h

/-- A row of pairs of one's own, from block B on, in block g. -/
def RowE (t : TypeId) (w : World) (B g cap : Nat) (xs : List P2) : Prop := w.ownsRow B t 2 (.slice (some ⟨g, 0, none⟩) xs.length cap) xs.length (flat xs)
theorem RowE.keep {t : TypeId} {w w' : World} {B g cap : Nat} {xs : List P2} (h : RowE t w B g cap xs) (hb : w'.heap[g]? = w.heap[g]?) : RowE t w' B g cap xs := by
  obtain ⟨h1, h2⟩ := h
  refine ⟨h1, ?_⟩
  rcases h2 with h2 | ⟨g', cap', cur, hv, hg, hh, r⟩
  · exact .inl h2
  · injection hv with e1 e2 e3
    injection e1 with e1
    injection e1 with e1
    subst e1
    exact .inr ⟨g, cap', cur, by rw [e3], hg, by rw [hb]; exact hh, r⟩
theorem RowE.lt {t : TypeId} {w : World} {B g cap : Nat} {xs : List P2} (h : RowE t w B g cap xs) : B ≤ g ∧ g < w.heap.size := by
  obtain ⟨h1, h2⟩ := h
  rcases h2 with ⟨hv, _⟩ | ⟨g', cap', cur, hv, hg, hh, r⟩
  · cases hv
  · injection hv with e1 e2 e3
    injection e1 with e1
    injection e1 with e1
    subst e1
    exact ⟨hg, (Array.getElem?_eq_some_iff.1 hh).1⟩
theorem RowE.empty (t : TypeId) (w : World) (B : Nat) (hB : B ≤ w.heap.size) : RowE t (w.alloc (.cells #[] t)) B w.heap.size 0 [] :=
  ⟨rfl, .inr ⟨w.heap.size, 0, #[], rfl, hB, heap_new _ _, Nat.le_refl _, by decide, rfl, rfl⟩⟩
theorem RowE.ownB {t : TypeId} {w : World} {B g cap : Nat} {xs : List P2} (h : RowE t w B g cap xs) : OwnB w B (some ⟨g, 0, none⟩) xs ∧ xs.length ≤ cap := by
  obtain ⟨h1, h2⟩ := h
  rcases h2 with ⟨hv, _⟩ | ⟨g', cap', cur, hv, hg, hh, hmc, hr, hsz, htk⟩
  · cases hv
  · injection hv with e1 e2 e3
    injection e1 with e1
    injection e1 with e1
    subst e1
    refine ⟨.inr ⟨g, rfl, hg, ⟨(Array.getElem?_eq_some_iff.1 hh).1, fun i hi => ?_⟩, fun o => frozen_heap hh o⟩, by rw [e3]; exact hmc⟩
    have e := flat_even xs i hi
    rw [← htk] at e
    rw [cell_heap hh, cell_heap hh, Nat.zero_add]
    rw [List.getElem?_take_of_lt (by omega), List.getElem?_take_of_lt (by omega)] at e
    simpa using e
theorem grownSame (w : World) (r : Option Nat) : w.grownBy w r := ⟨rfl, rfl, rfl, Nat.le_refl _, fun _ _ _ => rfl⟩

set_option maxRecDepth 100000 in
theorem step_append_rowE {P : Program} {ops : Array Oper} {o : Oper} {a : Act} {V : World} {K : Act → World → Prop} {Q : Exit → Act → World → Prop} {E : Prop} (hgd : o.guard = none) (s x : Operand) (t tl : TypeId) (ul : P.underlying tl = some (.slice t))
    (info : (P.info? t).map (fun i => (i.zero, i.size, i.bytes)) = some (some (.agg #[.int .i64 0, .int .i64 0]), 2, 16))
    (ho : o.op = .call { callee := .builtin .append, args := #[s, x], argTypes := #[tl, tl] }) (B g0 : Nat) (hs : a.eval s = .slice (some ⟨g0, 0, none⟩) 0 0) (hown : RowE t V B g0 0 [])
    (a2 : Option Addr) (c2 : Nat) (xs : List P2) (hx : a.eval x = .slice a2 xs.length c2) (hsl : Sl V a2 xs) (hl : xs.length ≤ 2 ^ 40) (hB : B ≤ V.heap.size)
    (h : ∀ gg cap w', RowE t w' B gg cap xs → V.grownBy w' (some g0) → (gg = g0 ∨ gg = V.heap.size) → K (a.put o.dst (.slice (some ⟨gg, 0, none⟩) xs.length cap)) w') :
    if Region.wanted o (yielded ops a.tmps) = true then Oper.wp P o a V K Q else E := by
  obtain ⟨i0, hi, hz0, hz1, hz2⟩ := info_parts info
  by_cases hd : xs = []
  · subst hd
    exact step_append_void hgd s x _ ho t i0 ul hi ⟨g0, 0, none⟩ hs a2 c2 hx (h g0 0 V hown (grownSame V _) (.inl rfl))
  · have hpos : 0 < xs.length := List.length_pos_iff.2 hd
    rcases hsl with e | ⟨b2, o2, rfl, a4⟩
    · exact absurd e hd
    refine step_append_lies V hgd s x _ ho B t i0 _ 2 16 ul hi hz0 hz1 hz2 rfl (by omega) (.slice (some ⟨g0, 0, none⟩) 0 0) 0 [] hs hown ⟨b2, o2, none⟩ xs.length c2 (flat xs) hx (flat_length xs) (flat_atP a4) (flat_one xs) hpos (by unfold maxLen; omega) (by omega) hB _ rfl ?_
    intro gg cap w' h1 h2 h3 h4
    rw [Nat.zero_add, List.nil_append] at h1
    rw [Nat.zero_add]
    refine h gg cap w' h1 h2 ?_
    rcases h3 with h3 | h3
    · left
      simp only [Value.ownBlock] at h3
      injection h3 with h3
      exact h3.symm
    · exact .inr h3
end Go.Proofs.Ytfifiobcmdmefaa.Own

namespace Go.Proofs.Ytfifiobcmdmefaa.Own
open Go.RowKit
set_option linter.unusedVariables false
set_option linter.unusedSimpArgs false

/-- A copied run's two lists: of their own, from block B on, apart. -/
structure RunE (w : World) (B g1 e1 g2 e2 : Nat) (xs ys : List P2) : Prop where
  l1 : OwnB w B (some ⟨g1, 0, none⟩) xs
  l2 : OwnB w B (some ⟨g2, 0, none⟩) ys
  c1 : xs.length ≤ e1
  c2 : ys.length ≤ e2
  b1 : B ≤ g1 ∧ g1 < w.heap.size
  b2 : B ≤ g2 ∧ g2 < w.heap.size
  ne : g1 ≠ g2
theorem RunE.blk {w w' : World} {B g1 e1 g2 e2 : Nat} {xs ys : List P2} (h : RunE w B g1 e1 g2 e2 xs ys) (hs : w.heap.size ≤ w'.heap.size) (h1 : w'.heap[g1]? = w.heap[g1]?) (h2 : w'.heap[g2]? = w.heap[g2]?) : RunE w' B g1 e1 g2 e2 xs ys := by
  have f : ∀ (g : Nat) (zs : List P2), OwnB w B (some ⟨g, 0, none⟩) zs → w'.heap[g]? = w.heap[g]? → OwnB w' B (some ⟨g, 0, none⟩) zs := fun g zs h e => by
    rcases h with h | ⟨g', eg, hB, h, hf⟩
    · exact .inl h
    · injection eg with eg
      injection eg with eg
      subst eg
      exact .inr ⟨g, rfl, hB, h.block hs e, fun o => by rw [World.frozen?_of_block (w := w) (a := ⟨g, o, none⟩) e]; exact hf o⟩
  exact ⟨f _ _ h.l1 h1, f _ _ h.l2 h2, h.c1, h.c2, ⟨h.b1.1, Nat.lt_of_lt_of_le h.b1.2 hs⟩, ⟨h.b2.1, Nat.lt_of_lt_of_le h.b2.2 hs⟩, h.ne⟩
theorem RunE.weaken {w : World} {B B' g1 e1 g2 e2 : Nat} {xs ys : List P2} (h : RunE w B g1 e1 g2 e2 xs ys) (hB : B' ≤ B) : RunE w B' g1 e1 g2 e2 xs ys :=
  ⟨h.l1.weaken hB, h.l2.weaken hB, h.c1, h.c2, ⟨Nat.le_trans hB h.b1.1, h.b1.2⟩, ⟨Nat.le_trans hB h.b2.1, h.b2.2⟩, h.ne⟩
/-- As a vote's lists. -/
theorem RunE.one {w : World} {B g1 e1 g2 e2 : Nat} {b : EB} (h : RunE w B g1 e1 g2 e2 b.xs b.ys) (z : Int) : OneOwn w B ⟨z, b, some ⟨g1, 0, none⟩, e1, some ⟨g2, 0, none⟩, e2⟩ := by
  have k : ∀ (g n b' : Nat), blkOf (some ⟨g, 0, none⟩) n = some b' → b' = g := fun g n b' e => by
    unfold blkOf at e
    split at e
    · cases e
    · simpa using e.symm
  refine ⟨h.l1, h.l2, h.c1, h.c2, fun b' e => ?_, fun b' e => ?_, fun b' e e2 => ?_⟩
  · rw [k _ _ _ e]; exact h.b1
  · rw [k _ _ _ e]; exact h.b2
  · have := k _ _ _ e
    have := k _ _ _ e2
    exact h.ne (by omega)

def L3Post (v k : Int) (xs ys : List P2) (w : World) (c : Nat) (wx : World) : Prop :=
  ∃ g1 e1 g2 e2, Blk wx c #[.slice (some ⟨g1, 0, none⟩) xs.length e1, .slice (some ⟨g2, 0, none⟩) ys.length e2, .int .i64 v, .int .i64 k] 31 ∧ RunE wx w.heap.size g1 e1 g2 e2 xs ys ∧ Below w.heap.size w wx

set_option maxRecDepth 100000 in
set_option maxHeartbeats 4000000 in
theorem l3Copy (a1 a2 : Option Addr) (c1 c2 : Nat) (xs ys : List P2) (v k : Int) (w : World) (h1 : Sl w a1 xs) (h2 : Sl w a2 ys) (n1 : xs.length ≤ 2 ^ 40) (n2 : ys.length ≤ 2 ^ 40) :
    Calls Try.prog 135 #[.agg #[.slice a1 xs.length c1, .slice a2 ys.length c2, .int .i64 v, .int .i64 k]] w fun e w' => ∃ g1 e1 g2 e2, e = .returned (.agg #[.slice (some ⟨g1, 0, none⟩) xs.length e1, .slice (some ⟨g2, 0, none⟩) ys.length e2, .int .i64 v, .int .i64 k]) ∧ RunE w' w.heap.size g1 e1 g2 e2 xs ys ∧ Below w.heap.size w w' := by
  obtain ⟨W, hW⟩ : ∃ W, W = (w.alloc (.cells #[.slice a1 xs.length c1, .slice a2 ys.length c2, .int .i64 v, .int .i64 k] 31)).alloc (.cells #[.slice none 0 0, .slice none 0 0, .int .i64 0, .int .i64 0] 31) := ⟨_, rfl⟩
  have bW : Below w.heap.size w W := by rw [hW]; exact ((Below.refl _ _).alloc (Nat.le_refl _) _).alloc (by simp) _
  have BW : Hid (Below w.heap.size w W) := bW
  have PW : Hid (Blk W w.heap.size #[.slice a1 xs.length c1, .slice a2 ys.length c2, .int .i64 v, .int .i64 k] 31) := by show Blk _ _ _ _; rw [hW]; exact (Blk.new _ _ _).alloc _
  have ZW : Hid (Blk W (w.heap.size + 1) #[.slice none 0 0, .slice none 0 0, .int .i64 0, .int .i64 0] 31) := by show Blk _ _ _ _; rw [hW]; exact Blk.new2 _ _ _ _
  have SZ : Hid (W.heap.size = w.heap.size + 2) := by show _ = _; rw [hW]; simp
  have S1 : Hid (Sl W a1 xs) := h1.below bW
  have S2 : Hid (Sl W a2 ys) := h2.below bW
  have HW : Hid (W = _) := hW
  have AF : Hid (∀ V, Below W.heap.size W V → (V.cell? ⟨w.heap.size, 0, none⟩ = some (.slice a1 xs.length c1) ∧ V.cell? ⟨w.heap.size, 1, none⟩ = some (.slice a2 ys.length c2) ∧ V.cell? ⟨w.heap.size, 2, none⟩ = some (.int .i64 v) ∧ V.cell? ⟨w.heap.size, 3, none⟩ = some (.int .i64 k)) ∧ (V.cell? ⟨w.heap.size + 1, 0, none⟩ = some (.slice none 0 0) ∧ V.cell? ⟨w.heap.size + 1, 1, none⟩ = some (.slice none 0 0) ∧ V.cell? ⟨w.heap.size + 1, 2, none⟩ = some (.int .i64 0) ∧ V.cell? ⟨w.heap.size + 1, 3, none⟩ = some (.int .i64 0)) ∧ (∀ o, V.frozen? ⟨w.heap.size + 1, o, none⟩ = false)) := fun V hV => ⟨(PW.out.keep hV).cells4, (ZW.out.keep hV).cells4, (ZW.out.keep hV).frozen⟩
  have FIN : Hid (∀ (L : World) (g1 e1 g2 e2 : Nat), Below W.heap.size W L → RowE 140 L W.heap.size g1 e1 xs → RowE 143 L W.heap.size g2 e2 ys → g1 ≠ g2 →
      ∀ X, X = ((((L.setCell ⟨w.heap.size + 1, 0, none⟩ (.slice (some ⟨g1, 0, none⟩) xs.length e1)).setCell ⟨w.heap.size + 1, 1, none⟩ (.slice (some ⟨g2, 0, none⟩) ys.length e2)).setCell ⟨w.heap.size + 1, 2, none⟩ (.int .i64 v)).setCell ⟨w.heap.size + 1, 3, none⟩ (.int .i64 k)) → L3Post v k xs ys w (w.heap.size + 1) X) := fun L g1 e1 g2 e2 hb r1 r2 hne X hX => by
    have sz := SZ.out
    have sl := hb.size
    have on : Only (w.heap.size + 1) L X := by rw [hX]; exact ((((Only.refl _ _).setCell _).setCell _).setCell _).setCell _
    have tu : Turned [w.heap.size + 1] L X := Turned.ofOnly on (by simp)
    have zb := (((((ZW.out.keep hb).set 0 (.slice (some ⟨g1, 0, none⟩) xs.length e1)).set 1 (.slice (some ⟨g2, 0, none⟩) ys.length e2)).set 2 (.int .i64 v)).set 3 (.int .i64 k)).eq (C' := #[.slice (some ⟨g1, 0, none⟩) xs.length e1, .slice (some ⟨g2, 0, none⟩) ys.length e2, .int .i64 v, .int .i64 k]) (by simp)
    have os := on.size
    have t1 := r1.lt
    have t2 := r2.lt
    have o1 := r1.ownB
    have o2 := r2.ownB
    exact ⟨g1, e1, g2, e2, by rw [hX]; exact zb, (RunE.blk (w := L) ⟨o1.1, o2.1, o1.2, o2.2, t1, t2, hne⟩ (Nat.le_of_eq os.symm) (on.block g1 (by omega)) (on.block g2 (by omega))).weaken (by omega), BW.out.trans ((hb.mono BW.out.size).trans (on.below (by omega)))⟩
  obtain ⟨V, hV⟩ : ∃ V, V = W.drew := ⟨_, rfl⟩
  have HV : Hid (V = W.drew) := hV
  have BV : Hid (Below W.heap.size W V) := by show Below _ _ _; rw [hV]; exact (Below.refl _ _).drew
  obtain ⟨⟨p0, p1, p2, p3⟩, ⟨z0, z1, z2, z3⟩, fz⟩ := AF.out W (Below.refl _ _)
  have pv := (AF.out V BV.out).1
  clear h1 h2 hW bW hV
  go_enter Try.func135, Try.ntmps135
  go_upto_region 1 with fail
  rw [← HW.out]
  go_cut [] from 3 to 16 (fun wx => L3Post v k xs ys w (w.heap.size + 1) wx)
  case first =>
    refine wp_region_held_drew (S := (fun w' : World => w'.cell? ⟨w.heap.size, 0, none⟩ = some (.slice a1 xs.length c1) ∧ w'.cell? ⟨w.heap.size, 1, none⟩ = some (.slice a2 ys.length c2) ∧ w'.cell? ⟨w.heap.size, 2, none⟩ = some (.int .i64 v) ∧ w'.cell? ⟨w.heap.size, 3, none⟩ = some (.int .i64 k))) (by kernel_rfl) ⟨p0, p1, p2, p3⟩ (fun hHeld => ?_)
    rw [← HV.out]
    refine wpAnyH_take (i := 1) (v := ?v1) rfl (by kernel_rfl) (by kernel_rfl) (by kernel_rfl) (fun _ _ _ h => h) (Or.inl ⟨by rfl, ?y1⟩) (by assumption) ?r1
    case y1 =>
      intro w' hSw
      try dsimp only at hSw
      go_simp
      try with_reducible rfl
    simp only [Act.put, List.getElem_toArray, List.getElem_cons_succ, List.getElem_cons_zero, List.setIfInBounds_toArray, List.set_cons_zero, List.set_cons_succ]
    refine wpAnyH_take (i := 2) (v := ?v2) rfl (by kernel_rfl) (by kernel_rfl) (by kernel_rfl) (fun _ _ _ h => h) (Or.inl ⟨by rfl, ?y2⟩) (by assumption) ?r2
    case y2 =>
      intro w' hSw
      try dsimp only at hSw
      go_simp
      try with_reducible rfl
    simp only [Act.put, List.getElem_toArray, List.getElem_cons_succ, List.getElem_cons_zero, List.setIfInBounds_toArray, List.set_cons_zero, List.set_cons_succ]
    refine wpAnyH_take (i := 5) (v := ?v5) rfl (by kernel_rfl) (by kernel_rfl) (by kernel_rfl) (fun _ _ _ h => h) (Or.inl ⟨by rfl, ?y5⟩) (by assumption) ?r5
    case y5 =>
      intro w' hSw
      try dsimp only at hSw
      go_simp
      try with_reducible rfl
    simp only [Act.put, List.getElem_toArray, List.getElem_cons_succ, List.getElem_cons_zero, List.setIfInBounds_toArray, List.set_cons_zero, List.set_cons_succ]
    refine wpAnyH_take (i := 6) (v := ?v6) rfl (by kernel_rfl) (by kernel_rfl) (by kernel_rfl) (fun _ _ _ h => h) (Or.inl ⟨by rfl, ?y6⟩) (by assumption) ?r6
    case y6 =>
      intro w' hSw
      try dsimp only at hSw
      go_simp
      try with_reducible rfl
    simp only [Act.put, List.getElem_toArray, List.getElem_cons_succ, List.getElem_cons_zero, List.setIfInBounds_toArray, List.set_cons_zero, List.set_cons_succ]
    refine wpAnyH_take (i := 8) (v := ?v8) rfl (by kernel_rfl) (by kernel_rfl) (by kernel_rfl) (fun _ _ _ h => h) (Or.inl ⟨by rfl, ?y8⟩) (by assumption) ?r8
    case y8 =>
      intro w' hSw
      try dsimp only at hSw
      go_simp
      try with_reducible rfl
    simp only [Act.put, List.getElem_toArray, List.getElem_cons_succ, List.getElem_cons_zero, List.setIfInBounds_toArray, List.set_cons_zero, List.set_cons_succ]
    refine wpAnyH_take (i := 9) (v := ?v9) rfl (by kernel_rfl) (by kernel_rfl) (by kernel_rfl) (fun _ _ _ h => h) (Or.inl ⟨by rfl, ?y9⟩) (by assumption) ?r9
    case y9 =>
      intro w' hSw
      try dsimp only at hSw
      go_simp
      try with_reducible rfl
    simp only [Act.put, List.getElem_toArray, List.getElem_cons_succ, List.getElem_cons_zero, List.setIfInBounds_toArray, List.set_cons_zero, List.set_cons_succ]
    refine wpAnyH_take (i := 10) (v := ?v10) rfl (by kernel_rfl) (by kernel_rfl) (by kernel_rfl) (fun _ _ _ h => h) (Or.inl ⟨by rfl, ?y10⟩) (by assumption) ?r10
    case y10 =>
      intro w' hSw
      try dsimp only at hSw
      go_simp
      try with_reducible rfl
    simp only [Act.put, List.getElem_toArray, List.getElem_cons_succ, List.getElem_cons_zero, List.setIfInBounds_toArray, List.set_cons_zero, List.set_cons_succ]
    refine wpAnyH_take (i := 11) (v := ?v11) rfl (by kernel_rfl) (by kernel_rfl) (by kernel_rfl) (fun _ _ _ h => h) (Or.inl ⟨by rfl, ?y11⟩) (by assumption) ?r11
    case y11 =>
      intro w' hSw
      try dsimp only at hSw
      go_simp
      try with_reducible rfl
    simp only [Act.put, List.getElem_toArray, List.getElem_cons_succ, List.getElem_cons_zero, List.setIfInBounds_toArray, List.set_cons_zero, List.set_cons_succ]
    refine wpAnyH_ready (rs := [0, 4]) (by kernel_rfl) (by simp) ?_
    refine AllReadyH.cons rfl (fun K hK => ?_) (AllReadyH.cons rfl (fun K hK => ?_) AllReadyH.nil)
    · skip
      obtain ⟨WA, hWA⟩ : ∃ V', V' = V.alloc (.cells #[] 140) := ⟨_, rfl⟩
      have BWA : Hid (Below W.heap.size W WA) := by show Below _ _ _; rw [hWA]; exact BV.out.alloc BV.out.size _
      have R1WA : Hid (RowE 140 WA W.heap.size V.heap.size 0 []) := by show RowE _ _ _ _ _ _; rw [hWA]; exact RowE.empty _ _ _ BV.out.size
      go_simp
      rw [← hWA]
      refine hK.out _ _ (AF.out _ BWA.out).1 (fun hHWA => ?_)
      clear hK K hWA
      refine wpAnyH_ready (rs := [3, 4]) (by kernel_rfl) (by simp) ?_
      refine AllReadyH.cons rfl (fun K hK => ?_) (AllReadyH.cons rfl (fun K hK => ?_) AllReadyH.nil)
      · skip
        refine step_append_rowE (V := WA) (by rfl) _ _ 140 28 Try.underlying28 infoReadC (by rfl) W.heap.size V.heap.size (by rfl) R1WA.out a1 c1 xs (by rfl) (S1.out.below BWA.out) n1 BWA.out.size ?_
        intro g1Aa e1Aa WAa ro_ gr_ at_
        have BWAa : Hid (Below W.heap.size W WAa) := BWA.out.grown gr_ BWA.out.size (fun x hx => by injection hx with hx; have := R1WA.out.lt.1; omega)
        have R1WAa : Hid (RowE 140 WAa W.heap.size g1Aa e1Aa xs) := ro_
        refine hK.out _ _ (AF.out WAa BWAa.out).1 (fun hHWAa => ?_)
        clear hK K ro_ gr_ at_
        refine wpAnyH_ready (rs := [4]) (by kernel_rfl) (by simp) ?_
        refine AllReadyH.cons rfl (fun K hK => ?_) AllReadyH.nil
        obtain ⟨WAaB, hWAaB⟩ : ∃ V', V' = WAa.alloc (.cells #[] 143) := ⟨_, rfl⟩
        have BWAaB : Hid (Below W.heap.size W WAaB) := by show Below _ _ _; rw [hWAaB]; exact BWAa.out.alloc BWAa.out.size _
        have R2WAaB : Hid (RowE 143 WAaB W.heap.size WAa.heap.size 0 []) := by show RowE _ _ _ _ _ _; rw [hWAaB]; exact RowE.empty _ _ _ BWAa.out.size
        have R1WAaB : Hid (RowE 140 WAaB W.heap.size g1Aa e1Aa xs) := by show RowE _ _ _ _ _ _; rw [hWAaB]; exact R1WAa.out.keep (heap_old _ _ _ R1WAa.out.lt.2)
        have NEWAaB : Hid (g1Aa ≠ WAa.heap.size) := by show _ ≠ _; have := R1WAa.out.lt.2; omega
        go_simp
        rw [← hWAaB]
        refine hK.out _ _ (AF.out _ BWAaB.out).1 (fun hHWAaB => ?_)
        clear hK K hWAaB
        refine wpAnyH_ready (rs := [7]) (by kernel_rfl) (by simp) ?_
        refine AllReadyH.cons rfl (fun K hK => ?_) AllReadyH.nil
        refine step_append_rowE (V := WAaB) (by rfl) _ _ 143 29 Try.underlying29 infoPutC (by rfl) W.heap.size WAa.heap.size (by rfl) R2WAaB.out a2 c2 ys (by rfl) (S2.out.below BWAaB.out) n2 BWAaB.out.size ?_
        intro g2AaBb e2AaBb WAaBb ro_ gr_ at_
        have BWAaBb : Hid (Below W.heap.size W WAaBb) := BWAaB.out.grown gr_ BWAaB.out.size (fun x hx => by injection hx with hx; have := R2WAaB.out.lt.1; omega)
        have R2WAaBb : Hid (RowE 143 WAaBb W.heap.size g2AaBb e2AaBb ys) := ro_
        have R1WAaBb : Hid (RowE 140 WAaBb W.heap.size g1Aa e1Aa xs) := R1WAaB.out.keep (gr_.block _ R1WAaB.out.lt.2 (fun x => by injection x with x; exact NEWAaB.out x))
        have NEWAaBb : Hid (g1Aa ≠ g2AaBb) := by show _ ≠ _; have := R1WAaB.out.lt.2; have := NEWAaB.out; omega
        refine hK.out _ _ (AF.out WAaBb BWAaBb.out).1 (fun hHWAaBb => ?_)
        clear hK K ro_ gr_ at_
        refine wpAnyH_take (i := 12) (v := ?vfin1) rfl (by kernel_rfl) (by kernel_rfl) (by kernel_rfl) (fun _ _ _ h => h) (Or.inl ⟨by rfl, ?yfin1⟩) (by assumption) ?rfin1
        case yfin1 =>
          intro w' hSw
          try dsimp only at hSw
          go_simp
          try with_reducible rfl
        simp only [Act.put, List.getElem_toArray, List.getElem_cons_succ, List.getElem_cons_zero, List.setIfInBounds_toArray, List.set_cons_zero, List.set_cons_succ]
        refine wpAnyH_ready (rs := [13]) (by kernel_rfl) (by simp) ?_
        refine AllReadyH.cons rfl (fun K hK => ?_) AllReadyH.nil
        obtain ⟨hp, ⟨y0, y1, y2, y3⟩, fy⟩ := AF.out WAaBb BWAaBb.out
        go_simp
        refine hK.out _ _ ?_ (fun hHx => ?_)
        · have on : Only (w.heap.size + 1) WAaBb ((((WAaBb.setCell ⟨w.heap.size + 1, 0, none⟩ (.slice (some ⟨g1Aa, 0, none⟩) xs.length e1Aa)).setCell ⟨w.heap.size + 1, 1, none⟩ (.slice (some ⟨g2AaBb, 0, none⟩) ys.length e2AaBb)).setCell ⟨w.heap.size + 1, 2, none⟩ (.int .i64 v)).setCell ⟨w.heap.size + 1, 3, none⟩ (.int .i64 k)) := ((((Only.refl _ _).setCell _).setCell _).setCell _).setCell _
          refine ⟨?_, ?_, ?_, ?_⟩
          · rw [on.cell (by simp)]; exact hp.1
          · rw [on.cell (by simp)]; exact hp.2.1
          · rw [on.cell (by simp)]; exact hp.2.2.1
          · rw [on.cell (by simp)]; exact hp.2.2.2
        · refine wpAnyH_done (by kernel_rfl) ?_ _
          go_wp2_with fail
          go_meet
          exact FIN.out WAaBb g1Aa e1Aa g2AaBb e2AaBb BWAaBb.out R1WAaBb.out R2WAaBb.out NEWAaBb.out _ rfl
      · skip
        obtain ⟨WAB, hWAB⟩ : ∃ V', V' = WA.alloc (.cells #[] 143) := ⟨_, rfl⟩
        have BWAB : Hid (Below W.heap.size W WAB) := by show Below _ _ _; rw [hWAB]; exact BWA.out.alloc BWA.out.size _
        have R2WAB : Hid (RowE 143 WAB W.heap.size WA.heap.size 0 []) := by show RowE _ _ _ _ _ _; rw [hWAB]; exact RowE.empty _ _ _ BWA.out.size
        have R1WAB : Hid (RowE 140 WAB W.heap.size V.heap.size 0 []) := by show RowE _ _ _ _ _ _; rw [hWAB]; exact R1WA.out.keep (heap_old _ _ _ R1WA.out.lt.2)
        have NEWAB : Hid (V.heap.size ≠ WA.heap.size) := by show _ ≠ _; have := R1WA.out.lt.2; omega
        go_simp
        rw [← hWAB]
        refine hK.out _ _ (AF.out _ BWAB.out).1 (fun hHWAB => ?_)
        clear hK K hWAB
        refine wpAnyH_ready (rs := [3]) (by kernel_rfl) (by simp) ?_
        refine AllReadyH.cons rfl (fun K hK => ?_) AllReadyH.nil
        refine step_append_rowE (V := WAB) (by rfl) _ _ 140 28 Try.underlying28 infoReadC (by rfl) W.heap.size V.heap.size (by rfl) R1WAB.out a1 c1 xs (by rfl) (S1.out.below BWAB.out) n1 BWAB.out.size ?_
        intro g1ABa e1ABa WABa ro_ gr_ at_
        have BWABa : Hid (Below W.heap.size W WABa) := BWAB.out.grown gr_ BWAB.out.size (fun x hx => by injection hx with hx; have := R1WAB.out.lt.1; omega)
        have R1WABa : Hid (RowE 140 WABa W.heap.size g1ABa e1ABa xs) := ro_
        have R2WABa : Hid (RowE 143 WABa W.heap.size WA.heap.size 0 []) := R2WAB.out.keep (gr_.block _ R2WAB.out.lt.2 (fun x => by injection x with x; exact NEWAB.out x.symm))
        have NEWABa : Hid (g1ABa ≠ WA.heap.size) := by show _ ≠ _; have := R2WAB.out.lt.2; have := NEWAB.out; omega
        refine hK.out _ _ (AF.out WABa BWABa.out).1 (fun hHWABa => ?_)
        clear hK K ro_ gr_ at_
        refine wpAnyH_ready (rs := [7]) (by kernel_rfl) (by simp) ?_
        refine AllReadyH.cons rfl (fun K hK => ?_) AllReadyH.nil
        refine step_append_rowE (V := WABa) (by rfl) _ _ 143 29 Try.underlying29 infoPutC (by rfl) W.heap.size WA.heap.size (by rfl) R2WABa.out a2 c2 ys (by rfl) (S2.out.below BWABa.out) n2 BWABa.out.size ?_
        intro g2ABab e2ABab WABab ro_ gr_ at_
        have BWABab : Hid (Below W.heap.size W WABab) := BWABa.out.grown gr_ BWABa.out.size (fun x hx => by injection hx with hx; have := R2WABa.out.lt.1; omega)
        have R2WABab : Hid (RowE 143 WABab W.heap.size g2ABab e2ABab ys) := ro_
        have R1WABab : Hid (RowE 140 WABab W.heap.size g1ABa e1ABa xs) := R1WABa.out.keep (gr_.block _ R1WABa.out.lt.2 (fun x => by injection x with x; exact NEWABa.out x))
        have NEWABab : Hid (g1ABa ≠ g2ABab) := by show _ ≠ _; have := R1WABa.out.lt.2; have := NEWABa.out; omega
        refine hK.out _ _ (AF.out WABab BWABab.out).1 (fun hHWABab => ?_)
        clear hK K ro_ gr_ at_
        refine wpAnyH_take (i := 12) (v := ?vfin2) rfl (by kernel_rfl) (by kernel_rfl) (by kernel_rfl) (fun _ _ _ h => h) (Or.inl ⟨by rfl, ?yfin2⟩) (by assumption) ?rfin2
        case yfin2 =>
          intro w' hSw
          try dsimp only at hSw
          go_simp
          try with_reducible rfl
        simp only [Act.put, List.getElem_toArray, List.getElem_cons_succ, List.getElem_cons_zero, List.setIfInBounds_toArray, List.set_cons_zero, List.set_cons_succ]
        refine wpAnyH_ready (rs := [13]) (by kernel_rfl) (by simp) ?_
        refine AllReadyH.cons rfl (fun K hK => ?_) AllReadyH.nil
        obtain ⟨hp, ⟨y0, y1, y2, y3⟩, fy⟩ := AF.out WABab BWABab.out
        go_simp
        refine hK.out _ _ ?_ (fun hHx => ?_)
        · have on : Only (w.heap.size + 1) WABab ((((WABab.setCell ⟨w.heap.size + 1, 0, none⟩ (.slice (some ⟨g1ABa, 0, none⟩) xs.length e1ABa)).setCell ⟨w.heap.size + 1, 1, none⟩ (.slice (some ⟨g2ABab, 0, none⟩) ys.length e2ABab)).setCell ⟨w.heap.size + 1, 2, none⟩ (.int .i64 v)).setCell ⟨w.heap.size + 1, 3, none⟩ (.int .i64 k)) := ((((Only.refl _ _).setCell _).setCell _).setCell _).setCell _
          refine ⟨?_, ?_, ?_, ?_⟩
          · rw [on.cell (by simp)]; exact hp.1
          · rw [on.cell (by simp)]; exact hp.2.1
          · rw [on.cell (by simp)]; exact hp.2.2.1
          · rw [on.cell (by simp)]; exact hp.2.2.2
        · refine wpAnyH_done (by kernel_rfl) ?_ _
          go_wp2_with fail
          go_meet
          exact FIN.out WABab g1ABa e1ABa g2ABab e2ABab BWABab.out R1WABab.out R2WABab.out NEWABab.out _ rfl
    · skip
      obtain ⟨WB, hWB⟩ : ∃ V', V' = V.alloc (.cells #[] 143) := ⟨_, rfl⟩
      have BWB : Hid (Below W.heap.size W WB) := by show Below _ _ _; rw [hWB]; exact BV.out.alloc BV.out.size _
      have R2WB : Hid (RowE 143 WB W.heap.size V.heap.size 0 []) := by show RowE _ _ _ _ _ _; rw [hWB]; exact RowE.empty _ _ _ BV.out.size
      go_simp
      rw [← hWB]
      refine hK.out _ _ (AF.out _ BWB.out).1 (fun hHWB => ?_)
      clear hK K hWB
      refine wpAnyH_ready (rs := [0]) (by kernel_rfl) (by simp) ?_
      refine AllReadyH.cons rfl (fun K hK => ?_) AllReadyH.nil
      obtain ⟨WBA, hWBA⟩ : ∃ V', V' = WB.alloc (.cells #[] 140) := ⟨_, rfl⟩
      have BWBA : Hid (Below W.heap.size W WBA) := by show Below _ _ _; rw [hWBA]; exact BWB.out.alloc BWB.out.size _
      have R1WBA : Hid (RowE 140 WBA W.heap.size WB.heap.size 0 []) := by show RowE _ _ _ _ _ _; rw [hWBA]; exact RowE.empty _ _ _ BWB.out.size
      have R2WBA : Hid (RowE 143 WBA W.heap.size V.heap.size 0 []) := by show RowE _ _ _ _ _ _; rw [hWBA]; exact R2WB.out.keep (heap_old _ _ _ R2WB.out.lt.2)
      have NEWBA : Hid (WB.heap.size ≠ V.heap.size) := by show _ ≠ _; have := R2WB.out.lt.2; omega
      go_simp
      rw [← hWBA]
      refine hK.out _ _ (AF.out _ BWBA.out).1 (fun hHWBA => ?_)
      clear hK K hWBA
      refine wpAnyH_ready (rs := [3]) (by kernel_rfl) (by simp) ?_
      refine AllReadyH.cons rfl (fun K hK => ?_) AllReadyH.nil
      refine step_append_rowE (V := WBA) (by rfl) _ _ 140 28 Try.underlying28 infoReadC (by rfl) W.heap.size WB.heap.size (by rfl) R1WBA.out a1 c1 xs (by rfl) (S1.out.below BWBA.out) n1 BWBA.out.size ?_
      intro g1BAa e1BAa WBAa ro_ gr_ at_
      have BWBAa : Hid (Below W.heap.size W WBAa) := BWBA.out.grown gr_ BWBA.out.size (fun x hx => by injection hx with hx; have := R1WBA.out.lt.1; omega)
      have R1WBAa : Hid (RowE 140 WBAa W.heap.size g1BAa e1BAa xs) := ro_
      have R2WBAa : Hid (RowE 143 WBAa W.heap.size V.heap.size 0 []) := R2WBA.out.keep (gr_.block _ R2WBA.out.lt.2 (fun x => by injection x with x; exact NEWBA.out x.symm))
      have NEWBAa : Hid (g1BAa ≠ V.heap.size) := by show _ ≠ _; have := R2WBA.out.lt.2; have := NEWBA.out; omega
      refine hK.out _ _ (AF.out WBAa BWBAa.out).1 (fun hHWBAa => ?_)
      clear hK K ro_ gr_ at_
      refine wpAnyH_ready (rs := [7]) (by kernel_rfl) (by simp) ?_
      refine AllReadyH.cons rfl (fun K hK => ?_) AllReadyH.nil
      refine step_append_rowE (V := WBAa) (by rfl) _ _ 143 29 Try.underlying29 infoPutC (by rfl) W.heap.size V.heap.size (by rfl) R2WBAa.out a2 c2 ys (by rfl) (S2.out.below BWBAa.out) n2 BWBAa.out.size ?_
      intro g2BAab e2BAab WBAab ro_ gr_ at_
      have BWBAab : Hid (Below W.heap.size W WBAab) := BWBAa.out.grown gr_ BWBAa.out.size (fun x hx => by injection hx with hx; have := R2WBAa.out.lt.1; omega)
      have R2WBAab : Hid (RowE 143 WBAab W.heap.size g2BAab e2BAab ys) := ro_
      have R1WBAab : Hid (RowE 140 WBAab W.heap.size g1BAa e1BAa xs) := R1WBAa.out.keep (gr_.block _ R1WBAa.out.lt.2 (fun x => by injection x with x; exact NEWBAa.out x))
      have NEWBAab : Hid (g1BAa ≠ g2BAab) := by show _ ≠ _; have := R1WBAa.out.lt.2; have := NEWBAa.out; omega
      refine hK.out _ _ (AF.out WBAab BWBAab.out).1 (fun hHWBAab => ?_)
      clear hK K ro_ gr_ at_
      refine wpAnyH_take (i := 12) (v := ?vfin3) rfl (by kernel_rfl) (by kernel_rfl) (by kernel_rfl) (fun _ _ _ h => h) (Or.inl ⟨by rfl, ?yfin3⟩) (by assumption) ?rfin3
      case yfin3 =>
        intro w' hSw
        try dsimp only at hSw
        go_simp
        try with_reducible rfl
      simp only [Act.put, List.getElem_toArray, List.getElem_cons_succ, List.getElem_cons_zero, List.setIfInBounds_toArray, List.set_cons_zero, List.set_cons_succ]
      refine wpAnyH_ready (rs := [13]) (by kernel_rfl) (by simp) ?_
      refine AllReadyH.cons rfl (fun K hK => ?_) AllReadyH.nil
      obtain ⟨hp, ⟨y0, y1, y2, y3⟩, fy⟩ := AF.out WBAab BWBAab.out
      go_simp
      refine hK.out _ _ ?_ (fun hHx => ?_)
      · have on : Only (w.heap.size + 1) WBAab ((((WBAab.setCell ⟨w.heap.size + 1, 0, none⟩ (.slice (some ⟨g1BAa, 0, none⟩) xs.length e1BAa)).setCell ⟨w.heap.size + 1, 1, none⟩ (.slice (some ⟨g2BAab, 0, none⟩) ys.length e2BAab)).setCell ⟨w.heap.size + 1, 2, none⟩ (.int .i64 v)).setCell ⟨w.heap.size + 1, 3, none⟩ (.int .i64 k)) := ((((Only.refl _ _).setCell _).setCell _).setCell _).setCell _
        refine ⟨?_, ?_, ?_, ?_⟩
        · rw [on.cell (by simp)]; exact hp.1
        · rw [on.cell (by simp)]; exact hp.2.1
        · rw [on.cell (by simp)]; exact hp.2.2.1
        · rw [on.cell (by simp)]; exact hp.2.2.2
      · refine wpAnyH_done (by kernel_rfl) ?_ _
        go_wp2_with fail
        go_meet
        exact FIN.out WBAab g1BAa e1BAa g2BAab e2BAab BWBAab.out R1WBAab.out R2WBAab.out NEWBAab.out _ rfl
  case rest =>
    obtain ⟨g1, e1, g2, e2, hblk, hst, hb⟩ := hcut
    obtain ⟨d0, d1, d2, d3⟩ := hblk.cells4
    have F : Hid (RunE wc w.heap.size g1 e1 g2 e2 xs ys ∧ Below w.heap.size w wc) := ⟨hst, hb⟩
    clear hblk hst hb p0 p1 p2 p3 z0 z1 z2 z3 fz
    go_wp2_with fail
    refine bodyPost_ret (v := .agg #[.slice (some ⟨g1, 0, none⟩) xs.length e1, .slice (some ⟨g2, 0, none⟩) ys.length e2, .int .i64 v, .int .i64 k]) (by simp [results, Try.results135, go_sem, d0, d1, d2, d3]) rfl ?_
    exact ⟨g1, e1, g2, e2, rfl, F.out.1, F.out.2⟩
end Go.Proofs.Ytfifiobcmdmefaa.Own
