/-
  Own text: what (impl.Entry).copied does.
-/
import Derived.Test.YtfifiobcmdmefaaCopyB
import Derived.Test.YtfifiobcmdmefaaMarkVote
namespace Go.Proofs.Ytfifiobcmdmefaa.Own
open Go.RowKit
set_option linter.unusedVariables false
set_option linter.unusedSimpArgs false

theorem infoReadC : (Try.prog.info? 140).map (fun i => (i.zero, i.size, i.bytes)) = some (some (.agg #[.int .i64 0, .int .i64 0]), 2, 16) := by kernel_rfl
theorem infoPutC : (Try.prog.info? 143).map (fun i => (i.zero, i.size, i.bytes)) = some (some (.agg #[.int .i64 0, .int .i64 0]), 2, 16) := by kernel_rfl

/-- An entry's seven cells. -/
def VM.ecells (x : VM) : Array Value := #[.bool x.b.n, .int .i64 x.b.p, .int .i64 x.b.q, .slice x.a1 x.b.xs.length x.c1, .slice x.a2 x.b.ys.length x.c2, .int .i64 x.b.v, .int .i64 x.b.k]
/-- A vote that a call made: its lists from block B on, apart, and of a room that holds them. -/
structure OneOwn (w : World) (B : Nat) (y : VM) : Prop where
  l1 : OwnB w B y.a1 y.b.xs
  l2 : OwnB w B y.a2 y.b.ys
  c1 : y.b.xs.length ≤ y.c1
  c2 : y.b.ys.length ≤ y.c2
  b1 : ∀ b, blk1 y = some b → B ≤ b ∧ b < w.heap.size
  b2 : ∀ b, blk2 y = some b → B ≤ b ∧ b < w.heap.size
  ap : ∀ b, blk1 y = some b → blk2 y ≠ some b

set_option maxRecDepth 100000 in
set_option maxHeartbeats 2000000 in
theorem entCopied (x : VM) (w : World) (h1 : Sl w x.a1 x.b.xs) (h2 : Sl w x.a2 x.b.ys) (k1 : x.b.xs.length ≤ 2 ^ 40) (k2 : x.b.ys.length ≤ 2 ^ 40) :
    Calls Try.prog 98 #[.agg x.ecells] w fun e w' => ∃ y : VM, e = .returned (.agg y.ecells) ∧ y.body = x.body ∧ OneOwn w' w.heap.size y ∧ Below w.heap.size w w' := by
  obtain ⟨bal, ⟨n, p, q, xs, ys, v, k⟩, a1, c1, a2, c2⟩ := x
  simp only [VM.ecells] at *
  have H1 : Hid (Sl w a1 xs) := h1
  have H2 : Hid (Sl w a2 ys) := h2
  clear h1 h2
  obtain ⟨X, hX⟩ : ∃ X, X = (w.alloc (.cells #[.bool n, .int .i64 p, .int .i64 q, .slice a1 xs.length c1, .slice a2 ys.length c2, .int .i64 v, .int .i64 k] 33)).alloc (.cells #[.bool false, .int .i64 0, .int .i64 0, .slice none 0 0, .slice none 0 0, .int .i64 0, .int .i64 0] 33) := ⟨_, rfl⟩
  have P0 : Hid (Blk X w.heap.size #[.bool n, .int .i64 p, .int .i64 q, .slice a1 xs.length c1, .slice a2 ys.length c2, .int .i64 v, .int .i64 k] 33) := by
    show Blk _ _ _ _; rw [hX]; exact (Blk.new _ _ _).alloc _
  have R0 : Hid (Blk X (w.heap.size + 1) #[.bool false, .int .i64 0, .int .i64 0, .slice none 0 0, .slice none 0 0, .int .i64 0, .int .i64 0] 33) := by
    show Blk _ _ _ _; rw [hX]; exact Blk.new2 _ _ _ _
  have BX : Hid (Below w.heap.size w X) := by
    show Below _ _ _; rw [hX]; exact ((Below.refl _ _).alloc (Nat.le_refl _) _).alloc (by rw [size_new]; omega) _
  have SX : X.heap.size = w.heap.size + 1 + 1 := by rw [hX, size_new, size_new]
  have HX : Hid (X = _) := hX
  clear hX
  obtain ⟨q0, q1, q2, q3, q4, q5, q6⟩ := P0.out.cells7
  have fr := P0.out.frozen
  go_enter Try.func98, Try.ntmps98
  go_upto_region 1 with fail
  rw [← HX.out]
  go_wp2_with (at_builtin; refine wpList_copyB rfl _ (.tmp 5) 28 rfl 140 Try.underlying28 infoReadC rfl a1 c1 xs rfl (H1.out.below BX.out) k1 (w.heap.size + 1 + 1) SX ?_)
  intro g1 e1 w3 o1 le1 gr1 hb1
  have B3 : Hid (Below X.heap.size X w3) := (Below.refl _ _).grown gr1 (Nat.le_refl _) (fun k hk => by cases hk)
  have P3 : Hid (Blk w3 w.heap.size #[.bool n, .int .i64 p, .int .i64 q, .slice a1 xs.length c1, .slice a2 ys.length c2, .int .i64 v, .int .i64 k] 33) := P0.out.keep B3.out
  have R3 : Hid (Blk w3 (w.heap.size + 1) #[.bool false, .int .i64 0, .int .i64 0, .slice none 0 0, .slice none 0 0, .int .i64 0, .int .i64 0] 33) := R0.out.keep B3.out
  have O1 : Hid (OwnB w3 (w.heap.size + 1 + 1) g1 xs) := o1
  have L1 : Hid (xs.length ≤ e1) := le1
  have G1 : Hid (∀ b, blkOf g1 xs.length = some b → w.heap.size + 1 + 1 ≤ b ∧ b < w3.heap.size) := hb1
  clear o1 le1 gr1 hb1 q0 q1 q2 q3 q4 q5 q6 fr
  obtain ⟨q0, q1, q2, q3, q4, q5, q6⟩ := P3.out.cells7
  have fr := P3.out.frozen
  go_upto_region 2 with fail
  obtain ⟨Y, hY⟩ : ∃ Y, Y = w3.setCell ⟨w.heap.size, 3, none⟩ (.slice g1 xs.length e1) := ⟨_, rfl⟩
  have HY : Hid (Y = w3.setCell ⟨w.heap.size, 3, none⟩ (.slice g1 xs.length e1)) := hY
  rw [← hY]
  have SY : Y.heap.size = w3.heap.size := by rw [hY]; simp [World.setCell]
  have S3 : w.heap.size + 1 + 1 ≤ w3.heap.size := by have := B3.out.size; omega
  have PY : Hid (Blk Y w.heap.size #[.bool n, .int .i64 p, .int .i64 q, .slice g1 xs.length e1, .slice a2 ys.length c2, .int .i64 v, .int .i64 k] 33) := by
    show Blk _ _ _ _; rw [hY]; exact P3.out.set 3 _
  have RY : Hid (Blk Y (w.heap.size + 1) #[.bool false, .int .i64 0, .int .i64 0, .slice none 0 0, .slice none 0 0, .int .i64 0, .int .i64 0] 33) := by
    show Blk _ _ _ _; rw [hY]; exact R3.out.other (by omega) _ _
  have BY : Hid (Below w.heap.size w Y) := by
    show Below _ _ _; rw [hY]; exact (BX.out.trans (B3.out.mono (by omega))).setCell (Nat.le_refl _) _
  have OY : Hid (OwnB Y (w.heap.size + 1 + 1) g1 xs) := O1.out.blk SY fun b hb => by
    have := G1.out b hb
    have hne : b ≠ w.heap.size := by omega
    rw [hY]; exact Below.heap_setCell _ _ _ _ hne
  clear q0 q1 q2 q3 q4 q5 q6 fr hY
  obtain ⟨q0, q1, q2, q3, q4, q5, q6⟩ := PY.out.cells7
  have fr := PY.out.frozen
  go_wp2_with (at_builtin; refine wpList_copyB rfl _ (.tmp 11) 29 rfl 143 Try.underlying29 infoPutC rfl a2 c2 ys rfl (H2.out.below BY.out) k2 w3.heap.size SY ?_)
  intro g2 e2 w4 o2 le2 gr2 hb2
  have B4 : Hid (Below Y.heap.size Y w4) := (Below.refl _ _).grown gr2 (Nat.le_refl _) (fun k hk => by cases hk)
  have P4 : Hid (Blk w4 w.heap.size #[.bool n, .int .i64 p, .int .i64 q, .slice g1 xs.length e1, .slice a2 ys.length c2, .int .i64 v, .int .i64 k] 33) := PY.out.keep B4.out
  have R4 : Hid (Blk w4 (w.heap.size + 1) #[.bool false, .int .i64 0, .int .i64 0, .slice none 0 0, .slice none 0 0, .int .i64 0, .int .i64 0] 33) := RY.out.keep B4.out
  have O2 : Hid (OwnB w4 w3.heap.size g2 ys) := o2
  have L2 : Hid (ys.length ≤ e2) := le2
  have G2 : Hid (∀ b, blkOf g2 ys.length = some b → w3.heap.size ≤ b ∧ b < w4.heap.size) := hb2
  have O14 : Hid (OwnB w4 (w.heap.size + 1 + 1) g1 xs) := OY.out.below B4.out
  have S4 : w3.heap.size ≤ w4.heap.size := by have := B4.out.size; omega
  clear o2 le2 gr2 hb2 q0 q1 q2 q3 q4 q5 q6 fr
  obtain ⟨q0, q1, q2, q3, q4, q5, q6⟩ := P4.out.cells7
  have fr := P4.out.frozen
  go_upto_region 3 with fail
  obtain ⟨Z, hZ⟩ : ∃ Z, Z = w4.setCell ⟨w.heap.size, 4, none⟩ (.slice g2 ys.length e2) := ⟨_, rfl⟩
  have HZ : Hid (Z = w4.setCell ⟨w.heap.size, 4, none⟩ (.slice g2 ys.length e2)) := hZ
  rw [← hZ]
  have SZ : Z.heap.size = w4.heap.size := by rw [hZ]; simp [World.setCell]
  have PZ : Hid (Blk Z w.heap.size #[.bool n, .int .i64 p, .int .i64 q, .slice g1 xs.length e1, .slice g2 ys.length e2, .int .i64 v, .int .i64 k] 33) := by
    show Blk _ _ _ _; rw [hZ]; exact P4.out.set 4 _
  have RZ : Hid (Blk Z (w.heap.size + 1) #[.bool false, .int .i64 0, .int .i64 0, .slice none 0 0, .slice none 0 0, .int .i64 0, .int .i64 0] 33) := by
    show Blk _ _ _ _; rw [hZ]; exact R4.out.other (by omega) _ _
  have BZ : Hid (Below w.heap.size w Z) := by
    show Below _ _ _; rw [hZ]; exact (BY.out.trans (B4.out.mono (by omega))).setCell (Nat.le_refl _) _
  have zb : ∀ b, b ≠ w.heap.size → Z.heap[b]? = w4.heap[b]? := fun b hb => by rw [hZ]; exact Below.heap_setCell _ _ _ _ hb
  have O1Z : Hid (OwnB Z (w.heap.size + 1 + 1) g1 xs) := O14.out.blk SZ fun b hb => zb b (by have := G1.out b hb; omega)
  have O2Z : Hid (OwnB Z w3.heap.size g2 ys) := O2.out.blk SZ fun b hb => zb b (by have := G2.out b hb; omega)
  clear q0 q1 q2 q3 q4 q5 q6 fr hZ zb
  obtain ⟨q0, q1, q2, q3, q4, q5, q6⟩ := PZ.out.cells7
  obtain ⟨r0, r1, r2, r3, r4, r5, r6⟩ := RZ.out.cells7
  have fr := RZ.out.frozen
  go_wp2_with fail
  obtain ⟨U, hU⟩ : ∃ U, U = ((((((Z.setCell ⟨w.heap.size + 1, 0, none⟩ (.bool n)).setCell ⟨w.heap.size + 1, 1, none⟩ (.int .i64 p)).setCell ⟨w.heap.size + 1, 2, none⟩ (.int .i64 q)).setCell ⟨w.heap.size + 1, 3, none⟩ (.slice g1 xs.length e1)).setCell ⟨w.heap.size + 1, 4, none⟩ (.slice g2 ys.length e2)).setCell ⟨w.heap.size + 1, 5, none⟩ (.int .i64 v)).setCell ⟨w.heap.size + 1, 6, none⟩ (.int .i64 k) := ⟨_, rfl⟩
  rw [← hU]
  have RU : Blk U (w.heap.size + 1) #[.bool n, .int .i64 p, .int .i64 q, .slice g1 xs.length e1, .slice g2 ys.length e2, .int .i64 v, .int .i64 k] 33 := by
    rw [hU]; exact ((((((RZ.out.set 0 _).set 1 _).set 2 _).set 3 _).set 4 _).set 5 _).set 6 _
  have SU : U.heap.size = Z.heap.size := by rw [hU]; simp [World.setCell]
  have BU : Below w.heap.size w U := by
    rw [hU]
    exact ((((((BZ.out.setCell (by show w.heap.size ≤ w.heap.size + 1; omega) _).setCell (by show w.heap.size ≤ w.heap.size + 1; omega) _).setCell (by show w.heap.size ≤ w.heap.size + 1; omega) _).setCell (by show w.heap.size ≤ w.heap.size + 1; omega) _).setCell (by show w.heap.size ≤ w.heap.size + 1; omega) _).setCell (by show w.heap.size ≤ w.heap.size + 1; omega) _).setCell (by show w.heap.size ≤ w.heap.size + 1; omega) _
  have ub : ∀ b, b ≠ w.heap.size + 1 → U.heap[b]? = Z.heap[b]? := fun b hb => by
    rw [hU, Below.heap_setCell _ _ _ _ hb, Below.heap_setCell _ _ _ _ hb, Below.heap_setCell _ _ _ _ hb, Below.heap_setCell _ _ _ _ hb, Below.heap_setCell _ _ _ _ hb, Below.heap_setCell _ _ _ _ hb, Below.heap_setCell _ _ _ _ hb]
  have O1U : OwnB U (w.heap.size + 1 + 1) g1 xs := O1Z.out.blk SU fun b hb => ub b (by have := G1.out b hb; omega)
  have O2U : OwnB U w3.heap.size g2 ys := O2Z.out.blk SU fun b hb => ub b (by have := G2.out b hb; omega)
  obtain ⟨z0, z1, z2, z3, z4, z5, z6⟩ := RU.cells7
  refine bodyPost_ret (v := .agg #[.bool n, .int .i64 p, .int .i64 q, .slice g1 xs.length e1, .slice g2 ys.length e2, .int .i64 v, .int .i64 k]) (by simp [results, Try.results98, go_sem, z0, z1, z2, z3, z4, z5, z6]) rfl ?_
  refine ⟨⟨bal, ⟨n, p, q, xs, ys, v, k⟩, g1, e1, g2, e2⟩, rfl, rfl, ⟨O1U.weaken (by omega), O2U.weaken (by omega), L1.out, L2.out, fun b hb => ?_, fun b hb => ?_, fun b hb hb' => ?_⟩, BU⟩
  · have := G1.out b hb; omega
  · have := G2.out b hb; omega
  · have := G1.out b hb
    have := G2.out b hb'
    omega

theorem OneOwn.blkV {w w' : World} {B : Nat} {y : VM} (h : OneOwn w B y) (hs : w.heap.size ≤ w'.heap.size) (hb : ∀ b, (blk1 y = some b ∨ blk2 y = some b) → w'.heap[b]? = w.heap[b]?) : OneOwn w' B y := by
  have f : ∀ (a : Option Addr) (xs : List P2), OwnB w B a xs → (∀ b, blkOf a xs.length = some b → w'.heap[b]? = w.heap[b]?) → OwnB w' B a xs := fun a xs h hb => by
    rcases h with h | ⟨g, rfl, hB, h, hf⟩
    · exact .inl h
    · by_cases h0 : xs = []
      · exact .inl h0
      · have hl : xs.length ≠ 0 := fun e => h0 (List.eq_nil_of_length_eq_zero e)
        have e := hb g (by simp [blkOf, hl])
        exact .inr ⟨g, rfl, hB, h.block hs e, fun o => by rw [World.frozen?_of_block (w := w) (a := ⟨g, o, none⟩) e]; exact hf o⟩
  exact ⟨f _ _ h.l1 fun b e => hb b (.inl e), f _ _ h.l2 fun b e => hb b (.inr e), h.c1, h.c2, fun b e => ⟨(h.b1 b e).1, Nat.lt_of_lt_of_le (h.b1 b e).2 hs⟩, fun b e => ⟨(h.b2 b e).1, Nat.lt_of_lt_of_le (h.b2 b e).2 hs⟩, h.ap⟩
theorem OneOwn.low {w : World} {B B' : Nat} {y : VM} (h : OneOwn w B y) (hB : B' ≤ B) : OneOwn w B' y :=
  ⟨h.l1.weaken hB, h.l2.weaken hB, h.c1, h.c2, fun b e => ⟨Nat.le_trans hB (h.b1 b e).1, (h.b1 b e).2⟩, fun b e => ⟨Nat.le_trans hB (h.b2 b e).1, (h.b2 b e).2⟩, h.ap⟩
end Go.Proofs.Ytfifiobcmdmefaa.Own
