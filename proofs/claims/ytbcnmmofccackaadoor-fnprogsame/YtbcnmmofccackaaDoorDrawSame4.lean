/-
  Own text: what spec.DrawProgSame and DrawProgLoads do.
-/
import Derived.Test.YtbcnmmofccackaaDoorDrawBent
namespace Go.Proofs.YtbcnmmofccackaaDoor.Own
open Go.RowKit
set_option linter.unusedVariables false
set_option linter.unusedSimpArgs false

theorem flat4_atS {w : World} {b : Nat} {xs : List Q4} (h : At4 w b 0 xs) (j : Nat) (v : Value) (hv : (flat4 xs)[j]? = some v) : w.cell? ((⟨b, 0, none⟩ : Addr).add j) = some v := by
  have e : (⟨b, 0, none⟩ : Addr).add j = ⟨b, j, none⟩ := by unfold Addr.add; split <;> simp_all
  have hl : j < (flat4 xs).length := (List.getElem?_eq_some_iff.1 hv).1
  rw [flat4_length] at hl
  have hk : j / 4 < xs.length := by omega
  have f := flat4_get _ (j / 4) hk
  have hx := h.2 (j / 4) hk
  rw [Nat.zero_add] at hx
  rw [e]
  have m : j % 4 = 0 ∨ j % 4 = 1 ∨ j % 4 = 2 ∨ j % 4 = 3 := by omega
  rcases m with m | m | m | m
  · rw [show j / 4 * 4 = j by omega] at f hx
    rw [hx.1, ← f.1, hv]
  · rw [show j / 4 * 4 + 1 = j by omega] at f hx
    rw [hx.2.1, ← f.2.1, hv]
  · rw [show j / 4 * 4 + 2 = j by omega] at f hx
    rw [hx.2.2.1, ← f.2.2.1, hv]
  · rw [show j / 4 * 4 + 3 = j by omega] at f hx
    rw [hx.2.2.2, ← f.2.2.2, hv]

/-- A program that a draw laid: in memory, few instructions, small numbers. -/
def Prog4 (w' : World) (g cap : Nat) (xs : List Q4) : Prop := At4 w' g 0 xs ∧ xs.length ≤ cap ∧ xs.length ≤ 12 ∧ Sm4 xs

set_option maxHeartbeats 1000000 in
theorem drawProgLoads (a : Option Addr) (n c : Nat) (w : World) (h : Bytes w w.heap.size a n) (hc : n ≤ c) (hm : c ≤ maxLen) :
    Calls Tryd.prog 5 #[.slice a n c] w fun e w' => ∃ g cap xs, e = .returned (.slice (some ⟨g, 0, none⟩) xs.length cap) ∧ Prog4 w' g cap xs ∧ Below w.heap.size w w' := by
  have HB : Hid (Bytes w w.heap.size a n) := h
  clear h
  go_enter Tryd.func5, Tryd.ntmps5
  go_wp2_with fail
  refine (l15Open a n c w HB.out hc hm).mono ?_
  rintro e w1 ⟨rfl, hR, hb⟩
  have HR : Hid (Rd w1 w.heap.size (w.heap.size + 1) 0) := hR
  have HB1 : Hid (Below w.heap.size w w1) := hb
  clear hR hb
  go_wp2_with fail
  refine (l2Bent w.heap.size (w.heap.size + 1) 0 w1 HR.out (by omega)).mono ?_
  rintro e w2 ⟨g, cap, xs, rfl, hown, hl, hsm, _, hbar⟩
  have F : Hid (Prog4 w2 g cap xs ∧ Bar w.heap.size w1 w2) := ⟨⟨hown.cells.2.1, hown.cells.2.2.2, by omega, hsm⟩, hbar⟩
  clear hown hsm hbar
  go_wp2
  go_ret
  exact ⟨g, cap, xs, rfl, F.out.1, HB1.out.trans (F.out.2.below (Nat.le_refl _) HB1.out.size)⟩

theorem Bytes.below {w w' : World} {a : Option Addr} {n : Nat} (h : Bytes w w.heap.size a n) (hb : Below w.heap.size w w') : Bytes w' w'.heap.size a n := by
  rcases h with h | ⟨b, off, rfl, hlt, hz⟩
  · exact .inl h
  · exact .inr ⟨b, off, rfl, Nat.lt_of_lt_of_le hlt hb.size, fun i hi => by rw [hb.cell (p := ⟨b, off + i, none⟩) hlt]; exact hz i hi⟩

set_option maxRecDepth 100000 in
set_option maxHeartbeats 2000000 in
theorem drawProgSame (a : Option Addr) (n c : Nat) (w : World) (h : Bytes w w.heap.size a n) (hc : n ≤ c) (hm : c ≤ maxLen) :
    Calls Tryd.prog 4 #[.slice a n c] w fun e w' => ∃ g1 cap1 xs g2 cap2 ys, e = .returned (.tuple #[.slice (some ⟨g1, 0, none⟩) xs.length cap1, .slice (some ⟨g2, 0, none⟩) ys.length cap2]) ∧ Prog4 w' g1 cap1 xs ∧ Prog4 w' g2 cap2 ys ∧ Below w.heap.size w w' := by
  have HB : Hid (Bytes w w.heap.size a n) := h
  have HM : Hid (c ≤ maxLen) := hm
  clear h
  unfold maxLen at hm
  go_enter Tryd.func4, Tryd.ntmps4
  go_wp2_with fail
  refine (l15Open a n c w HB.out hc HM.out).mono ?_
  rintro e w1 ⟨rfl, hR, hb⟩
  have HR : Hid (Rd w1 w.heap.size (w.heap.size + 1) 0) := hR
  have HB1 : Hid (Below w.heap.size w w1) := hb
  clear hR hb
  go_wp2_with fail
  refine (l2Bent w.heap.size (w.heap.size + 1) 0 w1 HR.out (by omega)).mono ?_
  rintro e w2 ⟨g1, cap1, xs, rfl, hown, hl1, hsm, _, hbar⟩
  have P1 : Hid (Prog4 w2 g1 cap1 xs) := ⟨hown.cells.2.1, hown.cells.2.2.2, by omega, hsm⟩
  have HB2 : Hid (Below w.heap.size w w2) := HB1.out.trans (hbar.below (Nat.le_refl _) HB1.out.size)
  clear hown hsm hbar
  go_wp2_with fail
  refine (l15Open a n c w2 (HB.out.below HB2.out) hc HM.out).mono ?_
  rintro e w3 ⟨rfl, hR, hb⟩
  have HR3 : Hid (Rd w3 w2.heap.size (w2.heap.size + 1) 0) := hR
  have HB3 : Hid (Below w2.heap.size w2 w3) := hb
  clear hR hb
  go_wp2_with fail
  refine (l2Bent w2.heap.size (w2.heap.size + 1) 0 w3 HR3.out (by omega)).mono ?_
  rintro e w4 ⟨g2, cap2, ys, rfl, hown, hl2, hsm, _, hbar⟩
  have OW : Hid (OwnQ w4 w3.heap.size (.slice (some ⟨g2, 0, none⟩) ys.length cap2) ys) := hown
  have SM : Hid (Sm4 ys) := hsm
  have HB4 : Hid (Below w2.heap.size w2 w4) := HB3.out.trans (hbar.below (Nat.le_refl _) HB3.out.size)
  have P4 : Hid (Prog4 w4 g1 cap1 xs) := ⟨P1.out.1.below HB4.out, P1.out.2⟩
  have HW4 : Hid (Below w.heap.size w w4) := HB2.out.trans (HB4.out.mono HB2.out.size)
  clear hown hsm hbar
  have fin : Hid (∃ g1' cap1' xs' g2' cap2' ys', (Value.tuple #[.slice (some ⟨g1, 0, none⟩) xs.length cap1, .slice (some ⟨g2, 0, none⟩) ys.length cap2]) = .tuple #[.slice (some ⟨g1', 0, none⟩) (List.length (α := Q4) xs') cap1', .slice (some ⟨g2', 0, none⟩) (List.length (α := Q4) ys') cap2'] ∧ Prog4 w4 g1' cap1' xs' ∧ Prog4 w4 g2' cap2' ys' ∧ Below w.heap.size w w4) :=
    ⟨g1, cap1, xs, g2, cap2, ys, rfl, P4.out, ⟨OW.out.cells.2.1, OW.out.cells.2.2.2, by omega, SM.out⟩, HW4.out⟩
  by_cases hn0 : n = 0
  · subst hn0
    go_wp2
    go_ret2
    obtain ⟨g1', cap1', xs', g2', cap2', ys', e, h1, h2, h3⟩ := fin.out
    exact ⟨g1', cap1', xs', g2', cap2', ys', congrArg Ending.returned e, h1, h2, h3⟩
  · have d0 : decide ((0 : Int) < (n : Int)) = true := by simp; omega
    have d1 : (0 : Int) < (n : Int) := by omega
    rcases (HB.out.below HW4.out) with h | ⟨b, off, rfl, hlt, hz⟩
    · omega
    obtain ⟨z, hz1, hz2⟩ := hz 0 (by omega)
    rw [Nat.add_zero] at hz2
    clear hz
    cases t : ((z : Int) % 2 == 1) with
    | false =>
      go_wp2
      go_ret2
      obtain ⟨g1', cap1', xs', g2', cap2', ys', e, h1, h2, h3⟩ := fin.out
      exact ⟨g1', cap1', xs', g2', cap2', ys', congrArg Ending.returned e, h1, h2, h3⟩
    | true =>
      obtain ⟨i0, hi, hz0, hz1', hz2'⟩ := info_parts infoInsD
      have I0 : Hid (Tryd.prog.info? 37 = some i0 ∧ i0.zero = some (.agg #[.int .i64 0, .int .i64 0, .int .i64 0, .int .i64 0]) ∧ i0.size = 4 ∧ i0.bytes = 32) := ⟨hi, hz0, hz1', hz2'⟩
      clear hi hz0 hz1' hz2' fin
      have M1 : Hid (ys.length + 1 ≤ maxLen) := by show _ ≤ _; unfold maxLen; omega
      have M3 : Hid ((ys.length + 1) * 32 ≤ 140737488355328) := by show _ ≤ _; omega
      have M5 : Hid (w3.heap.size ≤ w4.heap.size) := by
        obtain ⟨h1, h2, _⟩ := OW.out.cells
        have := h2.1
        show _ ≤ _
        omega
      have M4 : Hid (w3.heap.size ≤ (w4.alloc (.cells #[.int .i64 7, .int .i64 0, .int .i64 0, .int .i64 0] 37)).heap.size) := by show _ ≤ _; rw [size_new]; have := M5.out; omega
      go_wp2_with (at_builtin; refine wpList_append_lies _ rfl (.tmp 22) (.tmp 24) 23 rfl w3.heap.size 37 i0 (.agg #[.int .i64 0, .int .i64 0, .int .i64 0, .int .i64 0]) 4 32 Tryd.underlying23 I0.out.1 I0.out.2.1 I0.out.2.2.1 I0.out.2.2.2 rfl (by decide) (.slice (some ⟨g2, 0, none⟩) ys.length cap2) ys.length (flat4 ys) rfl (OwnQ.keep OW.out (below_new _ _)) ⟨w4.heap.size, 0, none⟩ 1 1 [.int .i64 7, .int .i64 0, .int .i64 0, .int .i64 0] rfl rfl (four_new _ _ _ _ _) (by simp [Value.oneCell']) (by decide) M1.out M3.out M4.out (w4.heap.size + 1) (size_new _ _) ?_)
      intro g4 cap4 w5 hown4 hgr hloc hg4
      have OW5 : OwnQ w5 w3.heap.size (.slice (some ⟨g4, 0, none⟩) (ys ++ [(7, 0, 0, 0)]).length cap4) (ys ++ [(7, 0, 0, 0)]) := by
        unfold OwnQ
        rw [List.length_append, flat4_snoc]
        exact hown4
      have P5 : Hid (Prog4 w5 g4 cap4 (ys ++ [(7, 0, 0, 0)])) := ⟨OW5.cells.2.1, OW5.cells.2.2.2, by simp; omega, SM.out.snoc (smq (by omega) (by omega) (by omega) (by omega))⟩
      have hg2 : w3.heap.size ≤ g2 := OW.out.cells.1
      have b5 : Below w3.heap.size w4 w5 := Below.grown ((Below.refl _ _).alloc M5.out _) hgr M4.out (fun k hk => by simp only [Value.ownBlock] at hk; injection hk with hk; omega)
      have hs : w2.heap.size ≤ w3.heap.size := HB3.out.size
      have B5 : Hid (Below w2.heap.size w4 w5) := b5.mono hs
      have Q5 : Hid (Prog4 w5 g1 cap1 xs) := ⟨P1.out.1.below (HB4.out.trans B5.out), P1.out.2⟩
      have W5 : Hid (Below w.heap.size w w5) := HW4.out.trans (B5.out.mono HB2.out.size)
      have LN : Hid ((ys ++ [(7, 0, 0, 0)]).length = ys.length + 1) := by show _ = _; simp
      clear hown4 hgr hloc hg4 OW5 hg2 b5 hs
      go_wp2
      go_ret2
      exact ⟨g1, cap1, xs, g4, cap4, ys ++ [(7, 0, 0, 0)], by rw [LN.out]; rfl, Q5.out, P5.out, W5.out⟩
end Go.Proofs.YtbcnmmofccackaaDoor.Own
