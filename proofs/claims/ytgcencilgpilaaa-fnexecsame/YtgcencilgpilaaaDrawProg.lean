/-
  Own text: what spec.l2Prog and l2Bent do.
-/
import Derived.Test.YtgcencilgpilaaaDrawQ
import Derived.Deep.AppendLies
namespace Go.Proofs.Ytgcencilgpilaaa.Own
open Go.RowKit
set_option linter.unusedVariables false
set_option linter.unusedSimpArgs false

theorem flat4_one (xs : List Q4) : ∀ v ∈ flat4 xs, v.oneCell' = true := by
  intro v hv
  simp only [flat4, List.mem_flatMap] at hv
  obtain ⟨q, _, h⟩ := hv
  simp at h
  rcases h with rfl | rfl | rfl | rfl <;> rfl

theorem own_emptyQ (w : World) (N : Nat) (hN : w.heap.size = N) : (w.alloc (.cells #[] 156)).ownsRow N 156 4 (.slice (some ⟨N, 0, none⟩) 0 0) 0 [] := by
  subst hN
  exact ⟨rfl, .inr ⟨w.heap.size, 0, #[], rfl, Nat.le_refl _, heap_new _ _, Nat.le_refl _, by unfold maxLen; omega, rfl, rfl⟩⟩

/-- A reader's block alone, or a row's own, or new ones: what an append leaves. -/
theorem Bar.grown {rb : Nat} {a w w' : World} {row : Option Nat} (h : Bar rb a w) (hg : w.grownBy w' row) (hr : ∀ k, row = some k → a.heap.size ≤ k) : Bar rb a w' :=
  ⟨hg.os.trans h.os, hg.tape.trans h.tape, hg.output.trans h.output, Nat.le_trans h.size hg.size, fun k hk hn => by
    rw [hg.block k (Nat.lt_of_lt_of_le hk h.size) (fun e => by have := hr k e.symm; omega)]; exact h.block k hk hn⟩
theorem Rd.grown {w w' : World} {rb B p : Nat} {row : Option Nat} (h : Rd w rb B p) (hg : w.grownBy w' row) (hr : ∀ k, row = some k → B ≤ k) : Rd w' rb B p :=
  h.keep hg.size fun k hk => hg.block k (Nat.lt_of_lt_of_le hk h.2.1) (fun e => by have := hr k e.symm; omega)

theorem infoInsD : (Try.prog.info? 156).map (fun i => (i.zero, i.size, i.bytes)) = some (some (.agg #[.int .i64 0, .int .i64 0, .int .i64 0, .int .i64 0]), 4, 32) := by kernel_rfl

set_option maxRecDepth 100000 in
set_option maxHeartbeats 4000000 in
theorem l2Prog (rb B p : Nat) (w : World) (h : Rd w rb B p) (hp : p ≤ 2 ^ 29) :
    Calls Try.prog 80 #[.pointer (some ⟨rb, 0, none⟩)] w fun e w' => ∃ g cap xs, e = .returned (.slice (some ⟨g, 0, none⟩) xs.length cap) ∧ OwnQ w' w.heap.size (.slice (some ⟨g, 0, none⟩) xs.length cap) xs ∧ xs.length ≤ 7 ∧ Sm4 xs ∧ (∃ p', p' ≤ p + 100 ∧ Rd w' rb B p') ∧ Bar rb w w' := by
  have HR : Hid (Rd w rb B p) := h
  have hrb : rb < w.heap.size := Nat.lt_of_lt_of_le h.1 h.2.1
  have HBs : Hid (B ≤ w.heap.size) := h.2.1
  clear h
  go_enter Try.func80, Try.ntmps80
  go_wp2_with fail
  refine (pick rb B p 3 w HR.out (by omega) (by omega) (by omega)).mono ?_
  rintro e w1 ⟨⟨c, rfl, c0, c1⟩, hR, hO⟩
  have D1 : Hid (Rd w1 rb B (p + 1)) := hR
  have B1 : Hid (Bar rb w w1) := Bar.ofOnly hO
  clear hR hO
  cases t0 : (c == 0) with
  | true =>
    go_wp2_with fail
    refine (pick rb B (p + 1) 3 w1 D1.out (by omega) (by omega) (by omega)).mono ?_
    rintro e w2 ⟨⟨b, rfl, b0, b1⟩, hR, hO⟩
    have D2 : Hid (Rd w2 rb B (p + 1 + 1)) := hR
    have B2 : Hid (Bar rb w w2) := B1.out.trans (Bar.ofOnly hO)
    clear hR hO
    go_wp2_with fail
    refine (pick rb B (p + 1 + 1) 3 w2 D2.out (by omega) (by omega) (by omega)).mono ?_
    rintro e w3 ⟨⟨d, rfl, d0, d1⟩, hR, hO⟩
    have D3 : Hid (Rd w3 rb B (p + 1 + 1 + 1)) := hR
    have B3 : Hid (Bar rb w w3) := B2.out.trans (Bar.ofOnly hO)
    clear hR hO
    go_wp2_with fail
    refine (pick rb B (p + 1 + 1 + 1) 3 w3 D3.out (by omega) (by omega) (by omega)).mono ?_
    rintro e w4 ⟨⟨n, rfl, n0, n1⟩, hR, hO⟩
    have D4 : Hid (Rd w4 rb B (p + 1 + 1 + 1 + 1)) := hR
    have B4 : Hid (Bar rb w w4) := B3.out.trans (Bar.ofOnly hO)
    clear hR hO
    go_wp2
    go_ret
    refine ⟨w4.heap.size, 4, [(1, 0, b, 0), (3, 1, 0, 1 + n), (4, 0, 1, 0), (2, d, 0, 0)], rfl, ⟨rfl, .inr ⟨_, 4, _, rfl, B4.out.size, heap_new _ _, Nat.le_refl _, by unfold maxLen; decide, rfl, rfl⟩⟩, by simp, ?_, ⟨_, by omega, D4.out.alloc _⟩, B4.out.alloc _⟩
    intro k hk
    have : k < 4 := hk
    match k, this with
    | 0, _ => exact smq (by omega) (by omega) (by omega) (by omega)
    | 1, _ => exact smq (by omega) (by omega) (by omega) (by omega)
    | 2, _ => exact smq (by omega) (by omega) (by omega) (by omega)
    | 3, _ => exact smq (by omega) (by omega) (by omega) (by omega)
  | false =>
    go_wp2_with fail
    refine (pick rb B (p + 1) 8 _ (D1.out.alloc _) (by omega) (by omega) (by omega)).mono ?_
    rintro e w2 ⟨⟨m, rfl, m0, m1⟩, hR, hO⟩
    obtain ⟨m, rfl⟩ := Int.eq_ofNat_of_zero_le m0
    have OW : Hid (OwnQ w2 w.heap.size (.slice (some ⟨w1.heap.size, 0, none⟩) 0 0) []) := by
      have h : OwnQ (w1.alloc (.cells #[] 156)) w.heap.size (.slice (some ⟨w1.heap.size, 0, none⟩) 0 0) [] := OwnQ.lower (own_emptyQ w1 w1.heap.size rfl) B1.out.size
      exact h.bar2 (Bar.ofOnly hO) hrb
    have D2 : Hid (Rd w2 rb B (p + 1 + 1)) := hR
    have B2 : Hid (Bar rb w w2) := (B1.out.alloc _).trans (Bar.ofOnly hO)
    clear hR hO m0
    go_wp2_with fail
    go_loopw [5, 6] (fun v i wr => ∃ j g cap xs, j ≤ m ∧ i = .int .i64 (j : Nat) ∧ v = .slice (some ⟨g, 0, none⟩) xs.length cap ∧ OwnQ wr w.heap.size (.slice (some ⟨g, 0, none⟩) xs.length cap) xs ∧ xs.length + j = m ∧ Sm4 xs ∧ (∃ p', p' ≤ p + 2 + 10 * xs.length ∧ Rd wr rb B p') ∧ Bar rb w wr) (fun _ i _ => (intOf i).toNat)
    case atStart => exact ⟨m, w1.heap.size, 0, [], Nat.le_refl _, rfl, rfl, OW.out, by simp, Sm4.nil, ⟨_, by omega, D2.out⟩, B2.out⟩
    case round =>
      clear OW D2 B2
      obtain ⟨j, g, cap, xs, hj, rfl, rfl, hown, hxl, hsm, ⟨p', hp', hrd⟩, hbar⟩ := hrel
      have OW : Hid (OwnQ wr w.heap.size (.slice (some ⟨g, 0, none⟩) xs.length cap) xs) := hown
      have SM : Hid (Sm4 xs) := hsm
      have D2 : Hid (Rd wr rb B p') := hrd
      have B2 : Hid (Bar rb w wr) := hbar
      clear hown hsm hrd hbar
      by_cases hlt : 0 < j
      · obtain ⟨i0, hi, hz0, hz1, hz2⟩ := info_parts infoInsD
        have I0 : Hid (Try.prog.info? 156 = some i0 ∧ i0.zero = some (.agg #[.int .i64 0, .int .i64 0, .int .i64 0, .int .i64 0]) ∧ i0.size = 4 ∧ i0.bytes = 32) := ⟨hi, hz0, hz1, hz2⟩
        clear hi hz0 hz1 hz2
        go_wp2_with fail
        refine (l2Any rb B p' wr D2.out (by omega)).mono ?_
        rintro e w3 ⟨⟨k, a, b, n, rfl, hq⟩, ⟨p3, hp3, hrd⟩, hbar⟩
        have OW3 : Hid (OwnQ w3 w.heap.size (.slice (some ⟨g, 0, none⟩) xs.length cap) xs) := OW.out.bar2 hbar hrb
        have HQ : Hid (SmQ (k, a, b, n)) := hq
        have D3 : Hid (Rd w3 rb B p3) := hrd
        have B3 : Hid (Bar rb w w3) := B2.out.trans hbar
        clear hq hrd hbar
        go_wp2_with (at_builtin; refine wpList_append_lies _ rfl (.tmp 31) (.tmp 34) 51 rfl w.heap.size 156 i0 (.agg #[.int .i64 0, .int .i64 0, .int .i64 0, .int .i64 0]) 4 32 Try.underlying51 I0.out.1 I0.out.2.1 I0.out.2.2.1 I0.out.2.2.2 rfl (by decide) (.slice (some ⟨g, 0, none⟩) xs.length cap) xs.length (flat4 xs) rfl (OwnQ.keep OW3.out (below_new _ _)) ⟨w3.heap.size, 0, none⟩ 1 1 [.int .i64 k, .int .i64 a, .int .i64 b, .int .i64 n] rfl rfl (four_new _ _ _ _ _) (by simp [Value.oneCell']) (by decide) (by unfold maxLen; omega) (by omega) (by have := B3.out.size; rw [size_new]; omega) (w3.heap.size + 1) (size_new _ _) ?_)
        intro g4 cap4 w4 hown4 hgr hloc hg4
        have OW4 : Hid (OwnQ w4 w.heap.size (.slice (some ⟨g4, 0, none⟩) (xs ++ [(k, a, b, n)]).length cap4) (xs ++ [(k, a, b, n)])) := by
          show OwnQ _ _ _ _
          unfold OwnQ
          rw [List.length_append, flat4_snoc]
          exact hown4
        have hbk : w.heap.size ≤ g := by
          obtain ⟨_, h2⟩ := OW3.out
          rcases h2 with ⟨hv, _⟩ | ⟨g', _, _, hv, hg, _⟩
          · cases hv
          · injection hv with e1; injection e1 with e1; injection e1 with e1; omega
        have D4 : Hid (Rd w4 rb B p3) := (D3.out.alloc _).grown hgr (fun k hk => by simp only [Value.ownBlock] at hk; injection hk with hk; have := HBs.out; omega)
        have B4 : Hid (Bar rb w w4) := (B3.out.alloc _).grown hgr (fun k hk => by simp only [Value.ownBlock] at hk; injection hk with hk; omega)
        clear hown4 hgr hloc hg4 hbk
        go_wp2
        go_roundw
        case rel => exact ⟨j - 1, g4, cap4, xs ++ [(k, a, b, n)], by omega, by go_num, by simp, OW4.out, by simp; omega, SM.out.snoc HQ.out, ⟨_, by simp; omega, D4.out⟩, B4.out⟩
        case measure => simp [intOf]; omega
      · go_wp2
        go_ret
        exact ⟨g, cap, xs, rfl, OW.out, by omega, SM.out, ⟨_, by omega, D2.out⟩, B2.out⟩
end Go.Proofs.Ytgcencilgpilaaa.Own
