/-
  Own text: the reader of codes: what (*spec.l15Rd).pick and num and spec.l15Open do.
-/
import Derived.Test.YtbecdihfopjlhaaBase
import Derived.Test.YtbecdihfopjlhaaBar
import Derived.BigQuiet
import Derived.Deep.QuietTactic
namespace Go.Proofs.Ytbecdihfopjlhaa.Own
open Go.RowKit

/-- Bytes in memory, in a block below B. -/
def Bytes (w : World) (B : Nat) (a : Option Addr) (n : Nat) : Prop := n = 0 ∨ ∃ b off, a = some ⟨b, off, none⟩ ∧ b < B ∧ ∀ i, i < n → ∃ z : Nat, z < 256 ∧ w.cell? ⟨b, off + i, none⟩ = some (.int .u8 z)

/-- A reader in block rb, at place p; what it reads lies below B. -/
def Rd (w : World) (rb B : Nat) (p : Nat) : Prop := rb < B ∧ B ≤ w.heap.size ∧ ∃ a n c, w.cell? ⟨rb, 0, none⟩ = some (.slice a n c) ∧ w.cell? ⟨rb, 1, none⟩ = some (.int .i64 p) ∧ (∀ o, w.frozen? ⟨rb, o, none⟩ = false) ∧ n ≤ 2000 ∧ Bytes w B a n ∧ (n = 0 ∨ ∀ x, a = some x → x.block ≠ rb)

theorem Bar.at {rb : Nat} {w w' : World} (h : Bar rb w w') {b off : Nat} {xs : List (Int × Int)} (hx : BoxAt w b off xs) (hb : b ≠ rb) : BoxAt w' b off xs := by
  have e : ∀ o, w'.cell? ⟨b, o, none⟩ = w.cell? ⟨b, o, none⟩ := fun o => World.cell?_of_block (w := w) (a := ⟨b, o, none⟩) (h.block b hx.1 hb)
  refine ⟨Nat.lt_of_lt_of_le hx.1 h.size, fun i hi => ?_⟩
  rw [e, e]; exact hx.2 i hi

theorem Rd.keep {w w' : World} {rb B p : Nat} (h : Rd w rb B p) (hs : w.heap.size ≤ w'.heap.size) (hk : ∀ k, k < B → w'.heap[k]? = w.heap[k]?) : Rd w' rb B p := by
  obtain ⟨hrb, hB, a, n, c, c0, c1, hfr, hn, hby, hne⟩ := h
  have e : ∀ b o, b < B → w'.cell? ⟨b, o, none⟩ = w.cell? ⟨b, o, none⟩ := fun b o hb => World.cell?_of_block (w := w) (a := ⟨b, o, none⟩) (hk b hb)
  refine ⟨hrb, Nat.le_trans hB hs, a, n, c, by rw [e _ _ hrb]; exact c0, by rw [e _ _ hrb]; exact c1, fun o => ?_, hn, ?_, hne⟩
  · rw [World.frozen?_of_block (w := w) (a := ⟨rb, o, none⟩) (hk rb hrb)]; exact hfr o
  · rcases hby with h | ⟨b, off, rfl, hb, hz⟩
    · exact .inl h
    · exact .inr ⟨b, off, rfl, hb, fun i hi => by rw [e _ _ hb]; exact hz i hi⟩
theorem Rd.below {w w' : World} {rb B p : Nat} (h : Rd w rb B p) (hb : Below w.heap.size w w') : Rd w' rb B p := h.keep hb.size fun k hk => hb.block k (Nat.lt_of_lt_of_le hk h.2.1)
theorem Rd.setCell {w : World} {rb B p : Nat} (h : Rd w rb B p) {q : Addr} (hq : B ≤ q.block) (v : Value) : Rd (w.setCell q v) rb B p := h.keep (by simp [World.setCell]) fun k hk => Below.heap_setCell _ _ _ _ (by omega)
theorem Rd.alloc {w : World} {rb B p : Nat} (h : Rd w rb B p) (o : Obj) : Rd (w.alloc o) rb B p := h.below ((Below.refl _ _).alloc (Nat.le_refl _) _)

theorem rd_next {w : World} {rb B p : Nat} (h : Rd w rb B p) : Rd (w.setCell ⟨rb, 1, none⟩ (.int .i64 ((p : Int) + 1))) rb B (p + 1) ∧ Only rb w (w.setCell ⟨rb, 1, none⟩ (.int .i64 ((p : Int) + 1))) := by
  obtain ⟨hrb, hB, a, n, c, c0, c1, hfr, hn, hby, hne⟩ := h
  refine ⟨⟨hrb, by simpa [World.setCell] using hB, a, n, c, ?_, ?_, ?_, hn, ?_, hne⟩, (Only.refl _ _).setCell _⟩
  · rw [setCell_cell_other _ _ _ _ _ (by omega)]; exact c0
  · rw [setCell_cell_same _ _ _ _ _ c1]; rfl
  · intro o; simpa using hfr o
  · rcases hby with h | ⟨b, off, rfl, hb, hz⟩
    · exact .inl h
    rcases hne with h | hne
    · exact .inl h
    · refine .inr ⟨b, off, rfl, hb, fun i hi => ?_⟩
      rw [World.cell?_setCell_other _ _ _ _ (by intro e; injection e with e1; exact hne _ rfl e1.symm)]
      exact hz i hi

theorem rd_drew {w w' : World} {rb B p : Nat} (h : Rd w rb B p ∧ Only rb w' w) (n : Nat) : Rd (w.drewN n) rb B p ∧ Only rb w' (w.drewN n) := by
  obtain ⟨h, o⟩ := h
  exact ⟨h, ⟨o.os, o.tape, o.output, o.size, o.block, o.frozen⟩⟩

theorem xor_nonneg (a b : Int) (ha : 0 ≤ a) (ha2 : a < 2 ^ 62) (hb : 0 ≤ b) (hb2 : b < 2 ^ 62) : 0 ≤ bits .xor .i64 a b := by
  obtain ⟨x, rfl⟩ := Int.eq_ofNat_of_zero_le ha
  obtain ⟨y, rfl⟩ := Int.eq_ofNat_of_zero_le hb
  have hx : x ^^^ y < 2 ^ 62 := Nat.xor_lt_two_pow (by omega) (by omega)
  have h1 : (BitVec.ofInt 64 (x : Int)).toNat = x := by
    rw [BitVec.ofInt_natCast, BitVec.toNat_ofNat]; exact Nat.mod_eq_of_lt (by omega)
  have h2 : (BitVec.ofInt 64 (y : Int)).toNat = y := by
    rw [BitVec.ofInt_natCast, BitVec.toNat_ofNat]; exact Nat.mod_eq_of_lt (by omega)
  show 0 ≤ IntKind.i64.wrap ((BitVec.ofInt 64 (x : Int) ^^^ BitVec.ofInt 64 (y : Int)).toNat : Int)
  rw [BitVec.toNat_xor, h1, h2, IntKind.wrap_i64]
  omega

set_option maxHeartbeats 2000000 in
theorem pick (rb B p : Nat) (m : Int) (w : World) (h : Rd w rb B p) (hp : p ≤ 2 ^ 40) (hm : 1 ≤ m) (hm2 : m ≤ 2 ^ 40) :
    Calls Try.prog 52 #[.pointer (some ⟨rb, 0, none⟩), .int .i64 m] w fun e w' => (∃ r : Int, e = .returned (.int .i64 r) ∧ 0 ≤ r ∧ r < m) ∧ Rd w' rb B (p + 1) ∧ Only rb w w' := by
  have NX : Hid (Rd (w.setCell ⟨rb, 1, none⟩ (.int .i64 ((p : Int) + 1))) rb B (p + 1) ∧ Only rb w (w.setCell ⟨rb, 1, none⟩ (.int .i64 ((p : Int) + 1)))) := rd_next h
  obtain ⟨hrb, hBs, a, n, c, c0, c1, hfr, hn, hby, hne⟩ := h
  have f1 := hfr 1
  have HF : Hid (∀ o, w.frozen? ⟨rb, o, none⟩ = false) := hfr
  have HB : Hid (Bytes w B a n) := hby
  have HN : Hid (n = 0 ∨ ∀ x, a = some x → x.block ≠ rb) := hne
  clear hfr hby hne
  by_cases h0 : n = 0
  · have h0' : ((n : Int) == 0) = true := by simp [h0]
    clear h0
    go_enter Try.func52, Try.ntmps52
    go_wp2
    go_ret
    exact ⟨⟨0, rfl, by omega, by omega⟩, NX.out⟩
  · have h0' : ((n : Int) == 0) = false := by simp; omega
    by_cases hlt : p < n
    · rcases HB.out with h | ⟨b, off, rfl, hb, hz⟩
      · omega
      obtain ⟨z, hz1, hz2⟩ := hz p hlt
      clear hz
      have hbr : ¬ b = rb := by
        rcases HN.out with h | h
        · omega
        · exact h _ rfl
      have hbr2 : ¬ rb = b := fun e => hbr e.symm
      go_enter Try.func52, Try.ntmps52
      go_wp2
      go_ret
      refine ⟨⟨_, rfl, ?_, ?_⟩, NX.out⟩
      · exact Int.emod_nonneg _ (by omega)
      · exact Int.emod_lt_of_pos _ (by omega)
    · rcases HB.out with h | ⟨b, off, rfl, hb, hz⟩
      · omega
      obtain ⟨i1, e1, l1⟩ : ∃ i1 : Nat, (p : Int) % (n : Int) = i1 ∧ i1 < n := ⟨p % n, by simp, Nat.mod_lt _ (by omega)⟩
      obtain ⟨i2, e2, l2⟩ : ∃ i2 : Nat, ((p : Int) * 7 + 3) % (n : Int) = i2 ∧ i2 < n := ⟨(p * 7 + 3) % n, by simp, Nat.mod_lt _ (by omega)⟩
      obtain ⟨q, e3, l3⟩ : ∃ q : Nat, (p : Int) / (n : Int) = q ∧ q ≤ p := ⟨p / n, by simp, Nat.div_le_self _ _⟩
      obtain ⟨z1, hz1, hz2⟩ := hz i1 l1
      obtain ⟨z2, hz3, hz4⟩ := hz i2 l2
      clear hz
      have hbr : ¬ b = rb := by
        rcases HN.out with h | h
        · omega
        · exact h _ rfl
      have hbr2 : ¬ rb = b := fun e => hbr e.symm
      have hpos : (0 : Int) < (n : Int) := by omega
      have L1 : (i1 : Int) < (n : Int) := by omega
      have L2 : (i2 : Int) < (n : Int) := by omega
      go_enter Try.func52, Try.ntmps52
      go_wp2
      go_quiet (fail)
      go_wp2
      go_ret
      refine ⟨⟨_, rfl, ?_, ?_⟩, rd_drew NX.out _⟩
      · exact Int.tmod_nonneg _ (xor_nonneg _ _ (by omega) (by omega) (by omega) (by omega))
      · exact Int.tmod_lt_of_pos _ (by omega)

/-- A list of numbers in block lb. -/
def Nums (w : World) (lb : Nat) (zs : List Int) : Prop := lb < w.heap.size ∧ ∀ i, i < zs.length → w.cell? ⟨lb, i, none⟩ = some (.int .i64 (zs.getD i 0))

set_option maxHeartbeats 1000000 in
theorem num (rb B p lb c n : Nat) (zs : List Int) (w : World) (h : Rd w rb B p) (hp : p ≤ 2 ^ 40) (hz : Nums w lb zs) (hzl : zs.length = n) (h1 : 1 ≤ n) (h2 : n ≤ 2 ^ 40) (hl : lb ≠ rb) :
    Calls Try.prog 53 #[.pointer (some ⟨rb, 0, none⟩), .slice (some ⟨lb, 0, none⟩) n c] w fun e w' => (∃ r : Int, e = .returned (.int .i64 r) ∧ r ∈ zs) ∧ Rd w' rb B (p + 1) ∧ Only rb w w' := by
  have HR : Hid (Rd w rb B p) := h
  have HZ : Hid (Nums w lb zs) := hz
  have HL : Hid (zs.length = n) := hzl
  clear h hz hzl
  go_enter Try.func53, Try.ntmps53
  go_wp2_with fail
  refine (pick rb B p n w HR.out hp (by omega) (by omega)).mono ?_
  rintro e w1 ⟨⟨r, rfl, r0, r1⟩, hR, hO⟩
  obtain ⟨k, rfl⟩ := Int.eq_ofNat_of_zero_le r0
  have hk : k < n := by omega
  have hc : w1.cell? ⟨lb, k, none⟩ = some (.int .i64 (zs.getD k 0)) := by
    rw [hO.cell (p := ⟨lb, k, none⟩) hl]; exact HZ.out.2 k (by rw [HL.out]; exact hk)
  obtain ⟨v, hv⟩ : ∃ v, v = zs.getD k 0 := ⟨_, rfl⟩
  rw [← hv] at hc
  have HV : Hid (v = zs.getD k 0) := hv
  have HF : Hid (Rd w1 rb B (p + 1) ∧ Only rb w w1) := ⟨hR, hO⟩
  clear hv hR hO
  go_wp2
  go_ret
  refine ⟨⟨v, rfl, ?_⟩, HF.out⟩
  rw [HV.out]
  have := HL.out
  simp [List.getD, show k < zs.length by omega]

set_option maxHeartbeats 1000000 in
theorem l15Open (a : Option Addr) (n c : Nat) (w : World) (h : Bytes w w.heap.size a n) (hc : n ≤ c) (hm : c ≤ maxLen) :
    Calls Try.prog 50 #[.slice a n c] w fun e w' => e = .returned (.pointer (some ⟨w.heap.size, 0, none⟩)) ∧ Rd w' w.heap.size (w.heap.size + 1) 0 ∧ Below w.heap.size w w' := by
  unfold maxLen at hm
  have HB : Hid (Bytes w w.heap.size a n) := h
  have key : ∀ m, m ≤ n → m ≤ 2000 → ∀ c', Rd (w.alloc (.cells #[.slice a m c', .int .i64 0] 117)) w.heap.size (w.heap.size + 1) 0 := by
    intro m hm1 hm2 c'
    refine ⟨by omega, by rw [size_new]; omega, a, m, c', by rw [cell_heap (heap_new _ _)]; rfl, by rw [cell_heap (heap_new _ _)]; rfl, fun o => frozen_heap (heap_new _ _) o, hm2, ?_, ?_⟩
    · rcases HB.out with h | ⟨b, off, rfl, hb, hz⟩
      · exact .inl (by omega)
      · refine .inr ⟨b, off, rfl, by omega, fun i hi => ?_⟩
        obtain ⟨z, hz1, hz2⟩ := hz i (by omega)
        exact ⟨z, hz1, by rw [((Below.refl w.heap.size w).alloc (Nat.le_refl _) _).cell (p := ⟨b, off + i, none⟩) hb]; exact hz2⟩
    · rcases HB.out with h | ⟨b, off, rfl, hb, hz⟩
      · exact .inl (by omega)
      · right
        intro x hx
        injection hx with hx
        subst hx
        exact Nat.ne_of_lt hb
  have KEY : Hid (∀ m, m ≤ n → m ≤ 2000 → ∀ c', Rd (w.alloc (.cells #[.slice a m c', .int .i64 0] 117)) w.heap.size (w.heap.size + 1) 0) := key
  clear key h
  by_cases hn : n ≤ 2000
  · go_enter Try.func50, Try.ntmps50
    go_wp2
    go_ret
    exact ⟨rfl, KEY.out n (Nat.le_refl _) hn _, (Below.refl _ _).alloc (Nat.le_refl _) _⟩
  · go_enter Try.func50, Try.ntmps50
    go_wp2
    go_ret
    exact ⟨rfl, KEY.out 2000 (by omega) (by omega) _, (Below.refl _ _).alloc (Nat.le_refl _) _⟩
end Go.Proofs.Ytbecdihfopjlhaa.Own
