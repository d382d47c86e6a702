/-
  Own texts, bundled: MarkBRm, MarkPm, MarkBPm, MarkRunM, MarkEnt, Wf4, Args4I, ArgsR, ArgsP, ArgsRun.
-/
import Derived.Test.YtbecdihfopjlhaaGreatDoorPk38
import Derived.Test.YtbecdihfopjlhaaGreatDoorPk8
import Derived.Test.YtbecdihfopjlhaaGreatDoorPk1
import Derived.Test.YtbecdihfopjlhaaGreatDoorPk2
import Derived.ProofKit
import Derived.Deep.Slices
import Derived.Deep.SlicePairs
namespace Go.Proofs.YtbecdihfopjlhaaGreatDoor.Own
open Go.RowKit
set_option linter.unusedVariables false

set_option maxHeartbeats 1000000 in
theorem markReadS0 (a : Option Addr) (c : Nat) (k : Int) (w : World) :
    Calls Tryz.prog 71 #[.slice a 0 c, .int .i64 k] w fun e w' => e = .returned (.int .i64 k) ∧ w' = w := by
  go_enter Tryz.func71, Tryz.ntmps71
  go_wp2
  go_loop [1, 5] (fun q i => i = .int .i64 0 ∧ q = .int .i64 k) (fun _ _ => 0)
  case atStart => exact ⟨rfl, rfl⟩
  case round =>
    obtain ⟨rfl, rfl⟩ := hrel
    go_wp2
    go_ret
    exact ⟨rfl, rfl⟩

theorem markReadB (a : Option Addr) (c n B : Nat) (xs : List (Int × Int)) (k : Int) (w : World) (h : OwnB w B a xs) (hl : xs.length = n) (hn : n ≤ 2 ^ 40) (hk0 : 0 ≤ k) (hk : k ≤ 2 ^ 40) :
    Calls Tryz.prog 71 #[.slice a n c, .int .i64 k] w fun e w' => e = .returned (.int .i64 (k + 2 * n)) ∧ OwnB w' B a (marks k n) ∧ OnlyB a xs w w' := by
  subst hl
  rcases h with h | ⟨g, rfl, hB, h, hf⟩
  · subst h
    refine (markReadS0 a c k w).mono ?_
    rintro e w' ⟨rfl, rfl⟩
    exact ⟨by simp, .inl rfl, .inl ⟨rfl, rfl⟩⟩
  · by_cases h0 : xs = []
    · subst h0
      refine (markReadS0 _ c k w).mono ?_
      rintro e w' ⟨rfl, rfl⟩
      exact ⟨by simp, .inl rfl, .inl ⟨rfl, rfl⟩⟩
    refine (markReadS g 0 xs.length c k w hn hk0 hk hf ?_ h.1).mono ?_
    · intro i hi
      have := h.2 (i / 2) (by omega)
      rcases Nat.mod_two_eq_zero_or_one i with m | m
      · exact ⟨_, by rw [show 0 + i = 0 + i / 2 * 2 by omega]; exact this.1, rfl⟩
      · exact ⟨_, by rw [show 0 + i = 0 + i / 2 * 2 + 1 by omega]; exact this.2, rfl⟩
    · rintro e w' ⟨rfl, hm, ho⟩
      exact ⟨rfl, .inr ⟨g, rfl, hB, hm, fun o => by rw [ho.frozen]; exact hf o⟩, .inr ⟨g, h0, rfl, ho⟩⟩
end Go.Proofs.YtbecdihfopjlhaaGreatDoor.Own

namespace Go.Proofs.YtbecdihfopjlhaaGreatDoor.Own
open Go.RowKit

set_option maxHeartbeats 1000000 in
theorem markPutS (b off n c : Nat) (k : Int) (w : World) (hn : n ≤ 2 ^ 40) (hk0 : 0 ≤ k) (hk : k ≤ 2 ^ 40) (hfr : ∀ o, w.frozen? ⟨b, o, none⟩ = false) (hcell : ∀ i, i < 2 * n → ∃ v, w.cell? ⟨b, off + i, none⟩ = some v ∧ v.oneCell' = true) (hb : b < w.heap.size) :
    Calls Tryz.prog 72 #[.slice (some ⟨b, off, none⟩) n c, .int .i64 k] w fun e w' => e = .returned (.int .i64 (k + 2 * n)) ∧ BoxAt w' b off (marks k n) ∧ Only b w w' := by
  have HC : Hid (∀ i, i < 2 * n → ∃ v, w.cell? ⟨b, off + i, none⟩ = some v ∧ v.oneCell' = true) := hcell
  have HF : Hid (∀ o, w.frozen? ⟨b, o, none⟩ = false) := hfr
  clear hcell hfr
  go_enter Tryz.func72, Tryz.ntmps72
  go_wp2
  go_loopw [1, 5] (fun q i wr => ∃ j : Nat, j ≤ n ∧ i = .int .i64 j ∧ q = .int .i64 (k + 2 * j) ∧ BoxAt wr b off (marks k j) ∧ (∀ i, 2 * j ≤ i → wr.cell? ⟨b, off + i, none⟩ = w.cell? ⟨b, off + i, none⟩) ∧ Only b w wr) (fun _ i _ => n - (intOf i).toNat)
  case atStart => exact ⟨0, Nat.zero_le _, rfl, by simp, ⟨hb, by simp [marks]⟩, fun _ _ => rfl, Only.refl _ _⟩
  case round =>
    obtain ⟨j, hj, rfl, rfl, hat, hrest, ho⟩ := hrel
    by_cases hlt : j < n
    · obtain ⟨v1, hv1, hv1'⟩ := HC.out (2 * j) (by omega)
      obtain ⟨v2, hv2, hv2'⟩ := HC.out (2 * j + 1) (by omega)
      have c1 : wr.cell? ⟨b, off + j * 2, none⟩ = some v1 := by rw [show off + j * 2 = off + 2 * j by omega, hrest _ (by omega)]; exact hv1
      have c2 : wr.cell? ⟨b, off + j * 2 + 1, none⟩ = some v2 := by rw [show off + j * 2 + 1 = off + (2 * j + 1) by omega, hrest _ (by omega)]; exact hv2
      have f1 : wr.frozen? ⟨b, off + j * 2, none⟩ = false := by rw [ho.frozen]; exact HF.out _
      have f2 : wr.frozen? ⟨b, off + j * 2 + 1, none⟩ = false := by rw [ho.frozen]; exact HF.out _
      have Hrest := hrest
      have HR : Hid (∀ i, 2 * j ≤ i → wr.cell? ⟨b, off + i, none⟩ = w.cell? ⟨b, off + i, none⟩) := Hrest
      have HA : Hid (BoxAt wr b off (marks k j)) := hat
      clear hrest Hrest hat hv1 hv2
      go_wp2
      go_roundw
      case rel =>
        refine ⟨j + 1, by omega, by go_num, ?_, ?_, ?_, (ho.setCell _).setCell _⟩
        · go_num
        · refine ⟨by simpa [World.setCell] using HA.out.1, fun i hi => ?_⟩
          rw [marks_length] at hi
          rw [marks_getD _ _ _ hi]
          by_cases e : i = j
          · subst e
            exact ⟨by rw [setCell_cell_other _ _ _ _ _ (by omega)]; exact setCell_cell_same _ _ _ _ _ c1, setCell_cell_same _ _ _ _ v2 (by rw [setCell_cell_other _ _ _ _ _ (by omega)]; exact c2)⟩
          · have := HA.out.2 i (by rw [marks_length]; omega)
            rw [marks_getD _ _ _ (by omega)] at this
            rw [setCell_cell_other _ _ _ _ _ (by omega), setCell_cell_other _ _ _ _ _ (by omega), setCell_cell_other _ _ _ _ _ (by omega), setCell_cell_other _ _ _ _ _ (by omega)]
            exact this
        · intro i hi
          rw [setCell_cell_other _ _ _ _ _ (by omega), setCell_cell_other _ _ _ _ _ (by omega)]
          exact HR.out i (by omega)
      case measure => simp [intOf]; omega
    · go_wp2
      go_ret
      have : j = n := by omega
      subst this
      exact ⟨rfl, hat, ho⟩

end Go.Proofs.YtbecdihfopjlhaaGreatDoor.Own

namespace Go.Proofs.YtbecdihfopjlhaaGreatDoor.Own
open Go.RowKit
set_option linter.unusedVariables false

set_option maxHeartbeats 1000000 in
theorem markPutS0 (a : Option Addr) (c : Nat) (k : Int) (w : World) :
    Calls Tryz.prog 72 #[.slice a 0 c, .int .i64 k] w fun e w' => e = .returned (.int .i64 k) ∧ w' = w := by
  go_enter Tryz.func72, Tryz.ntmps72
  go_wp2
  go_loop [1, 5] (fun q i => i = .int .i64 0 ∧ q = .int .i64 k) (fun _ _ => 0)
  case atStart => exact ⟨rfl, rfl⟩
  case round =>
    obtain ⟨rfl, rfl⟩ := hrel
    go_wp2
    go_ret
    exact ⟨rfl, rfl⟩

theorem markPutB (a : Option Addr) (c n B : Nat) (xs : List (Int × Int)) (k : Int) (w : World) (h : OwnB w B a xs) (hl : xs.length = n) (hn : n ≤ 2 ^ 40) (hk0 : 0 ≤ k) (hk : k ≤ 2 ^ 40) :
    Calls Tryz.prog 72 #[.slice a n c, .int .i64 k] w fun e w' => e = .returned (.int .i64 (k + 2 * n)) ∧ OwnB w' B a (marks k n) ∧ OnlyB a xs w w' := by
  subst hl
  rcases h with h | ⟨g, rfl, hB, h, hf⟩
  · subst h
    refine (markPutS0 a c k w).mono ?_
    rintro e w' ⟨rfl, rfl⟩
    exact ⟨by simp, .inl rfl, .inl ⟨rfl, rfl⟩⟩
  · by_cases h0 : xs = []
    · subst h0
      refine (markPutS0 _ c k w).mono ?_
      rintro e w' ⟨rfl, rfl⟩
      exact ⟨by simp, .inl rfl, .inl ⟨rfl, rfl⟩⟩
    refine (markPutS g 0 xs.length c k w hn hk0 hk hf ?_ h.1).mono ?_
    · intro i hi
      have := h.2 (i / 2) (by omega)
      rcases Nat.mod_two_eq_zero_or_one i with m | m
      · exact ⟨_, by rw [show 0 + i = 0 + i / 2 * 2 by omega]; exact this.1, rfl⟩
      · exact ⟨_, by rw [show 0 + i = 0 + i / 2 * 2 + 1 by omega]; exact this.2, rfl⟩
    · rintro e w' ⟨rfl, hm, ho⟩
      exact ⟨rfl, .inr ⟨g, rfl, hB, hm, fun o => by rw [ho.frozen]; exact hf o⟩, .inr ⟨g, h0, rfl, ho⟩⟩
end Go.Proofs.YtbecdihfopjlhaaGreatDoor.Own

namespace Go.Proofs.YtbecdihfopjlhaaGreatDoor.Own
open Go.RowKit
set_option linter.unusedVariables false

set_option maxRecDepth 100000 in
set_option maxHeartbeats 1000000 in
theorem markRunB (a1 a2 : Option Addr) (n1 n2 c1 c2 B : Nat) (xs ys : List (Int × Int)) (v u k : Int) (L : List Nat) (w : World) (h1 : OwnB w B a1 xs) (h2 : OwnB w B a2 ys) (hap : Apart a1 a2 xs ys) (l1 : xs.length = n1) (l2 : ys.length = n2) (m1 : n1 ≤ 2 ^ 30) (m2 : n2 ≤ 2 ^ 30) (hk0 : 0 ≤ k) (hk : k ≤ 2 ^ 30)
    (hL1 : ∀ g, a1 = some ⟨g, 0, none⟩ → g ∈ L) (hL2 : ∀ g, a2 = some ⟨g, 0, none⟩ → g ∈ L) :
    Calls Tryz.prog 68 #[.agg #[.slice a1 n1 c1, .slice a2 n2 c2, .int .i64 v, .int .i64 u], .int .i64 k] w fun e w' => e = .returned (.int .i64 (k + 2 * n1 + 2 * n2)) ∧ OwnB w' B a1 (marks k n1) ∧ OwnB w' B a2 (marks (k + 2 * n1) n2) ∧ Turned L w w' := by
  have H1 : Hid (OwnB w B a1 xs) := h1
  have H2 : Hid (OwnB w B a2 ys) := h2
  have HAP : Hid (Apart a1 a2 xs ys) := hap
  have HL1 : Hid (∀ g, a1 = some ⟨g, 0, none⟩ → g ∈ L) := hL1
  have HL2 : Hid (∀ g, a2 = some ⟨g, 0, none⟩ → g ∈ L) := hL2
  have N1 : Hid (xs.length = n1) := l1
  have N2 : Hid (ys.length = n2) := l2
  clear h1 h2 hap hL1 hL2 l1 l2
  obtain ⟨W, hW⟩ : ∃ W, W = w.alloc (.cells #[.slice a1 n1 c1, .slice a2 n2 c2, .int .i64 v, .int .i64 u] 37) := ⟨_, rfl⟩
  have BW : Hid (Below w.heap.size w W) := by show Below _ _ _; rw [hW]; exact below_new _ _
  have P0 : Hid (C4 W w.heap.size (.slice a1 n1 c1) (.slice a2 n2 c2) (.int .i64 v) (.int .i64 u)) := by show C4 _ _ _ _ _ _; rw [hW]; exact C4.new _ _ _ _ _ _
  have HW : Hid (W = _) := hW
  clear hW
  have K1 : Hid (∀ w1, OnlyB a1 xs W w1 → C4 w1 w.heap.size (.slice a1 n1 c1) (.slice a2 n2 c2) (.int .i64 v) (.int .i64 u)) := by
    intro w1 ho
    rcases ho with ⟨_, rfl⟩ | ⟨g, hne, e, ho⟩
    · exact P0.out
    · refine P0.out.turned (L := [g]) (Turned.ofOnly ho (by simp)) ?_
      have hg : g < w.heap.size := by
        rcases H1.out with h | ⟨g', e', _, h, _⟩
        · exact absurd h hne
        · rw [e] at e'; injection e' with e'; injection e' with e1; subst e1; exact h.1
      simp; omega
  go_enter Tryz.func68, Tryz.ntmps68
  go_wp2_with fail
  rw [← HW.out]
  refine (markReadB a1 c1 n1 B xs k W (H1.out.below BW.out) N1.out (by omega) hk0 (by omega)).mono ?_
  rintro e w1 ⟨rfl, o1, t1⟩
  have O1 : Hid (OwnB w1 B a1 (marks k n1)) := o1
  have O2 : Hid (OwnB w1 B a2 ys) := by
    refine (H2.out.below BW.out).onlyB t1 ?_
    rcases HAP.out with h | h | h
    · exact .inr (.inl h)
    · exact .inl h
    · exact .inr (.inr fun g g' e e' => fun e2 => h g' g e' e e2.symm)
  have T1 : Hid (Turned L w w1) := (Turned.ofBelow BW.out).trans (Turned.ofOnlyB t1 HL1.out)
  obtain ⟨_, q0, q1, q2, q3⟩ := K1.out w1 t1
  clear o1 t1
  go_wp2_with fail
  refine (markPutB a2 c2 n2 B ys (k + 2 * n1) w1 O2.out N2.out (by omega) (by omega) (by omega)).mono ?_
  rintro e w2 ⟨rfl, o2, t2⟩
  have O3 : Hid (OwnB w2 B a2 (marks (k + 2 * n1) n2)) := o2
  have O4 : Hid (OwnB w2 B a1 (marks k n1)) := by
    refine O1.out.onlyB t2 ?_
    rcases HAP.out with h | h | h
    · left
      have := N1.out
      rw [h] at this
      rw [← this]; rfl
    · exact .inr (.inl h)
    · exact .inr (.inr h)
  have T2 : Hid (Turned L w w2) := T1.out.trans (Turned.ofOnlyB t2 HL2.out)
  clear o2 t2 q0 q1 q2 q3
  go_wp2_with fail
  go_ret
  exact ⟨rfl, O4.out, O3.out, T2.out⟩

end Go.Proofs.YtbecdihfopjlhaaGreatDoor.Own

namespace Go.Proofs.YtbecdihfopjlhaaGreatDoor.Own
open Go.RowKit
set_option linter.unusedVariables false

set_option maxRecDepth 100000 in
set_option maxHeartbeats 1000000 in
theorem markEntB (n : Bool) (p q : Int) (a1 a2 : Option Addr) (n1 n2 c1 c2 B : Nat) (xs ys : List (Int × Int)) (v u k : Int) (L : List Nat) (w : World) (h1 : OwnB w B a1 xs) (h2 : OwnB w B a2 ys) (hap : Apart a1 a2 xs ys) (l1 : xs.length = n1) (l2 : ys.length = n2) (m1 : n1 ≤ 2 ^ 30) (m2 : n2 ≤ 2 ^ 30) (hk0 : 0 ≤ k) (hk : k ≤ 2 ^ 30)
    (hL1 : ∀ g, a1 = some ⟨g, 0, none⟩ → g ∈ L) (hL2 : ∀ g, a2 = some ⟨g, 0, none⟩ → g ∈ L) :
    Calls Tryz.prog 25 #[.agg #[.bool n, .int .i64 p, .int .i64 q, .slice a1 n1 c1, .slice a2 n2 c2, .int .i64 v, .int .i64 u], .int .i64 k] w fun e w' => e = .returned (.int .i64 (k + 2 * n1 + 2 * n2)) ∧ Turned L w w' := by
  obtain ⟨W, hW⟩ : ∃ W, W = w.alloc (.cells #[.bool n, .int .i64 p, .int .i64 q, .slice a1 n1 c1, .slice a2 n2 c2, .int .i64 v, .int .i64 u] 48) := ⟨_, rfl⟩
  have bW : Below w.heap.size w W := by rw [hW]; exact below_new _ _
  have BW : Hid (Below w.heap.size w W) := bW
  have QW : Hid (Blk W w.heap.size #[.bool n, .int .i64 p, .int .i64 q, .slice a1 n1 c1, .slice a2 n2 c2, .int .i64 v, .int .i64 u] 48) := by show Blk _ _ _ _; rw [hW]; exact Blk.new _ _ _
  have MR : Hid (Calls Tryz.prog 68 #[.agg #[.slice a1 n1 c1, .slice a2 n2 c2, .int .i64 v, .int .i64 u], .int .i64 k] W fun e w' => e = .returned (.int .i64 (k + 2 * n1 + 2 * n2)) ∧ OwnB w' B a1 (marks k n1) ∧ OwnB w' B a2 (marks (k + 2 * n1) n2) ∧ Turned L W w') :=
    markRunB a1 a2 n1 n2 c1 c2 B xs ys v u k L W (h1.below bW) (h2.below bW) hap l1 l2 m1 m2 hk0 hk hL1 hL2
  have HW : Hid (W = _) := hW
  obtain ⟨q0, q1, q2, q3, q4, q5, q6⟩ := QW.out.cells7
  clear h1 h2 hap l1 l2 hL1 hL2 hW bW
  go_enter Tryz.func25, Tryz.ntmps25
  go_wp2_with fail
  rw [← HW.out]
  go_wp2_with fail
  refine Calls.mono MR.out ?_
  rintro e w1 ⟨rfl, _, _, ht⟩
  have T : Hid (Turned L w w1) := (Turned.ofBelow BW.out).trans ht
  clear ht
  go_wp2_with fail
  go_ret
  exact ⟨rfl, T.out⟩
end Go.Proofs.YtbecdihfopjlhaaGreatDoor.Own

namespace Go.Proofs.YtbecdihfopjlhaaGreatDoor.Own

def FitsQ (p : Q4) : Prop := Fits p.1 ∧ Fits p.2.1 ∧ Fits p.2.2.1 ∧ Fits p.2.2.2
def Wf4 (xs : List Q4) : Prop := ∀ k, k < xs.length → FitsQ (xs.getD k q0)

end Go.Proofs.YtbecdihfopjlhaaGreatDoor.Own

namespace Go.Proofs.YtbecdihfopjlhaaGreatDoor.Own
open Go.ChangeShapes Go.WideShapes Go.ChangeAt Go.RowKit

theorem add_eq4 (b off j : Nat) : (⟨b, off, none⟩ : Addr).add j = ⟨b, off + j, none⟩ := by unfold Addr.add; split <;> simp_all

theorem fits_of4 {z : Int} (h : (Lit.int .i64 z).wf = true) : Fits z := by
  simp [Lit.wf, IntKind.min, IntKind.max, IntKind.signed, IntKind.bits] at h
  exact ⟨by omega, by omega⟩

theorem int_cell {H : Type} {enc : TypeId × Value → H} {W : World} {n : Nat} {v : Value} {y : DataW H × List MemPlace} (t : DataW.trod enc Tryz.prog W 0 (fun _ => true) true n 3 [v] = some y) : ∃ z, v = .int .i64 z ∧ Fits z := by
  obtain ⟨z, e, _, f⟩ := DataW.trod_int Tryz.underlying3 t
  simp at e
  exact ⟨z, e, fits_of4 f⟩

theorem cellsInt : Tryz.prog.cellsOf 3 = 1 := by kernel_rfl
end Go.Proofs.YtbecdihfopjlhaaGreatDoor.Own

namespace Go.Proofs.YtbecdihfopjlhaaGreatDoor.Own
open Go.ChangeShapes Go.WideShapes Go.ChangeAt Go.RowKit


theorem openReads {H : Type} {enc : TypeId × Value → H} {W : World} {fuel : Nat} {a : Option Addr} {len cap : Nat} {x : DataW H × List MemPlace}
    (hf : DataW.trod enc Tryz.prog W 0 (fun _ => true) true fuel 62 [.slice a len cap] = some x) : ∃ xs : List (Int × Int), xs.length = len ∧ Sl W a xs ∧ xs.length ≤ maxLen := by
  rcases Deep.open_slice_pairs Tryz.underlying62 Tryz.underlying206 (by kernel_rfl) rfl rfl (by kernel_rfl) (by kernel_rfl) hf with ⟨hcs, _⟩ | ⟨ad, l, c, m, n, V0, V1, D0, D1, P0, P1, hcs, _, hl, hm, hmm, _, hx⟩
  · simp at hcs
    obtain ⟨rfl, rfl, rfl⟩ := hcs
    exact ⟨[], rfl, .inl rfl, by simp⟩
  · simp at hcs
    obtain ⟨rfl, rfl, rfl⟩ := hcs
    have hmm' : m = cap := by simpa using hmm
    subst hmm'
    have ex : ∀ i, i < m → ∃ p : Int × Int, W.cell? (ad.add (i * 2)) = some (.int .i64 p.1) ∧ W.cell? (ad.add (i * 2 + 1)) = some (.int .i64 p.2) := by
      intro i hi
      obtain ⟨c0, c1, t0, t1⟩ := hx i hi
      obtain ⟨z0, e0, _, _⟩ := DataW.trod_int Tryz.underlying3 t0
      obtain ⟨z1, e1, _, _⟩ := DataW.trod_int Tryz.underlying3 t1
      simp at e0 e1
      exact ⟨(z0, z1), by rw [c0, e0], by rw [c1, e1]⟩
    obtain ⟨f, hf2⟩ := Deep.choose_lt ex
    refine ⟨(List.range len).map f, by simp, ?_, by simp; omega⟩
    by_cases h0 : len = 0
    · left; simp [h0]
    right
    obtain ⟨b, off, spot⟩ := ad
    have c0 := (hf2 0 (by omega)).1
    have hspot : spot = none := by simpa [Addr.add] using World.cell?_spot c0
    subst hspot
    refine ⟨b, off, rfl, ?_, ?_⟩
    · have : W.cell? ⟨b, off, none⟩ = some (.int .i64 (f 0).1) := by simpa [Addr.add] using c0
      simp only [World.cell?] at this
      cases hq : W.heap[b]? with
      | none => simp [hq] at this
      | some o => exact (Array.getElem?_eq_some_iff.1 hq).1
    · intro i hi
      have hi' : i < len := by simpa using hi
      have := hf2 i (by omega)
      rw [add_eq4, add_eq4] at this
      have e : ((List.range len).map f).getD i (0, 0) = f i := by simp [List.getD, hi']
      rw [e]
      exact this

end Go.Proofs.YtbecdihfopjlhaaGreatDoor.Own

namespace Go.Proofs.YtbecdihfopjlhaaGreatDoor.Own
open Go.ChangeShapes Go.WideShapes Go.ChangeAt Go.RowKit


theorem openPuts {H : Type} {enc : TypeId × Value → H} {W : World} {fuel : Nat} {a : Option Addr} {len cap : Nat} {x : DataW H × List MemPlace}
    (hf : DataW.trod enc Tryz.prog W 0 (fun _ => true) true fuel 63 [.slice a len cap] = some x) : ∃ xs : List (Int × Int), xs.length = len ∧ Sl W a xs ∧ xs.length ≤ maxLen := by
  rcases Deep.open_slice_pairs Tryz.underlying63 Tryz.underlying208 (by kernel_rfl) rfl rfl (by kernel_rfl) (by kernel_rfl) hf with ⟨hcs, _⟩ | ⟨ad, l, c, m, n, V0, V1, D0, D1, P0, P1, hcs, _, hl, hm, hmm, _, hx⟩
  · simp at hcs
    obtain ⟨rfl, rfl, rfl⟩ := hcs
    exact ⟨[], rfl, .inl rfl, by simp⟩
  · simp at hcs
    obtain ⟨rfl, rfl, rfl⟩ := hcs
    have hmm' : m = cap := by simpa using hmm
    subst hmm'
    have ex : ∀ i, i < m → ∃ p : Int × Int, W.cell? (ad.add (i * 2)) = some (.int .i64 p.1) ∧ W.cell? (ad.add (i * 2 + 1)) = some (.int .i64 p.2) := by
      intro i hi
      obtain ⟨c0, c1, t0, t1⟩ := hx i hi
      obtain ⟨z0, e0, _, _⟩ := DataW.trod_int Tryz.underlying3 t0
      obtain ⟨z1, e1, _, _⟩ := DataW.trod_int Tryz.underlying3 t1
      simp at e0 e1
      exact ⟨(z0, z1), by rw [c0, e0], by rw [c1, e1]⟩
    obtain ⟨f, hf2⟩ := Deep.choose_lt ex
    refine ⟨(List.range len).map f, by simp, ?_, by simp; omega⟩
    by_cases h0 : len = 0
    · left; simp [h0]
    right
    obtain ⟨b, off, spot⟩ := ad
    have c0 := (hf2 0 (by omega)).1
    have hspot : spot = none := by simpa [Addr.add] using World.cell?_spot c0
    subst hspot
    refine ⟨b, off, rfl, ?_, ?_⟩
    · have : W.cell? ⟨b, off, none⟩ = some (.int .i64 (f 0).1) := by simpa [Addr.add] using c0
      simp only [World.cell?] at this
      cases hq : W.heap[b]? with
      | none => simp [hq] at this
      | some o => exact (Array.getElem?_eq_some_iff.1 hq).1
    · intro i hi
      have hi' : i < len := by simpa using hi
      have := hf2 i (by omega)
      rw [add_eq4, add_eq4] at this
      have e : ((List.range len).map f).getD i (0, 0) = f i := by simp [List.getD, hi']
      rw [e]
      exact this

end Go.Proofs.YtbecdihfopjlhaaGreatDoor.Own

namespace Go.Proofs.YtbecdihfopjlhaaGreatDoor.Own
open Go.ChangeShapes Go.WideShapes Go.ChangeAt Go.RowKit
set_option linter.unusedVariables false

theorem cellsRun : Tryz.prog.cellsOf 65 = 4 := by kernel_rfl
theorem cellsReads : Tryz.prog.cellsOf 62 = 1 := by kernel_rfl
theorem cellsPuts : Tryz.prog.cellsOf 63 = 1 := by kernel_rfl

theorem slice_cell {H : Type} {enc : TypeId × Value → H} {W : World} {n : Nat} {t e : TypeId} (ht : Tryz.prog.underlying t = some (.slice e)) {v : Value} {y : DataW H × List MemPlace} (h : DataW.trod enc Tryz.prog W 0 (fun _ => true) true n t [v] = some y) : ∃ a l c, v = .slice a l c ∧ l ≤ c ∧ c ≤ maxLen := by
  rcases Deep.open_slice ht h with ⟨hcs, _⟩ | ⟨ad, l, c, m, n, D, Pl, hcs, _, hl, hm, hmm, _, hx⟩
  · simp at hcs
    exact ⟨none, 0, 0, hcs, Nat.le_refl _, by unfold maxLen; omega⟩
  · simp at hcs
    exact ⟨_, _, _, hcs, hl, hm⟩

set_option maxRecDepth 100000 in
theorem openRun {H : Type} {enc : TypeId × Value → H} {W : World} {fuel : Nat} {cs : Array Value} {x : DataW H × List MemPlace}
    (hf : DataW.trod enc Tryz.prog W 0 (fun _ => true) true fuel 65 cs.toList = some x) :
    ∃ (a1 a2 : Option Addr) (c1 c2 : Nat) (xs ys : List (Int × Int)) (v k : Int), cs = #[.slice a1 xs.length c1, .slice a2 ys.length c2, .int .i64 v, .int .i64 k] ∧ Sl W a1 xs ∧ Sl W a2 ys ∧ xs.length ≤ c1 ∧ ys.length ≤ c2 ∧ c1 ≤ maxLen ∧ c2 ≤ maxLen ∧ Fits v ∧ Fits k := by
  obtain ⟨l⟩ := cs
  obtain ⟨xs, n, hk, hxy, hl, hxl, hfd⟩ := DataW.trod_struct Tryz.underlying65 hf
  rw [cellsRun] at hl
  match xs, hxl, l, hl with
  | [y0, y1, y2, y3], _, [v0, v1, v2, v3], _ =>
    have g0 := hfd 0 _ rfl
    have g1 := hfd 1 _ rfl
    have g2 := hfd 2 _ rfl
    have g3 := hfd 3 _ rfl
    simp [cellsInt, cellsReads, cellsPuts] at g0 g1 g2 g3
    obtain ⟨z2, rfl, f2⟩ := int_cell g2
    obtain ⟨z3, rfl, f3⟩ := int_cell g3
    obtain ⟨a1, l1, c1, rfl, hl1, hm1⟩ := slice_cell Tryz.underlying62 g0
    obtain ⟨a2, l2, c2, rfl, hl2, hm2⟩ := slice_cell Tryz.underlying63 g1
    obtain ⟨xs, rfl, s1, _⟩ := openReads g0
    obtain ⟨ys, rfl, s2, _⟩ := openPuts g1
    exact ⟨a1, a2, c1, c2, xs, ys, z2, z3, rfl, s1, s2, hl1, hl2, hm1, hm2, f2, f3⟩
end Go.Proofs.YtbecdihfopjlhaaGreatDoor.Own
