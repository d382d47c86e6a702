/-
  Own text: what spec.DrawProgText and spec.DrawProgRead do: a program, some text.
-/
import Derived.Test.YtbcnmmofccackaaGreatDoorDrawBent
import Derived.Test.YtbcnmmofccackaaGreatDoorProgTextS
import Derived.Test.YtbcnmmofccackaaGreatDoorSCut
import Derived.Deep.RegionWith
namespace Go.Proofs.YtbcnmmofccackaaGreatDoor.Own
open Go.RowKit
set_option linter.unusedVariables false
set_option linter.unusedSimpArgs false

theorem Sm4.wf {xs : List Q4} (h : Sm4 xs) : Wf4 xs := fun k hk => by
  obtain ⟨h1, h2, h3, h4⟩ := h k hk
  exact ⟨⟨by omega, by omega⟩, ⟨by omega, by omega⟩, ⟨by omega, by omega⟩, ⟨by omega, by omega⟩⟩

/-- A program that a draw laid: in memory, few instructions, small numbers. -/
def Prog4 (w' : World) (g cap : Nat) (xs : List Q4) : Prop := At4 w' g 0 xs ∧ xs.length ≤ cap ∧ xs.length ≤ 12 ∧ Sm4 xs

set_option maxHeartbeats 1000000 in
theorem drawProgText (a : Option Addr) (n c : Nat) (w : World) (h : Bytes w w.heap.size a n) (hc : n ≤ c) (hm : c ≤ maxLen) :
    Calls Tryz.prog 4 #[.slice a n c] w fun e w' => ∃ g cap xs, e = .returned (.slice (some ⟨g, 0, none⟩) xs.length cap) ∧ Prog4 w' g cap xs ∧ Below w.heap.size w w' := by
  have HB : Hid (Bytes w w.heap.size a n) := h
  clear h
  go_enter Tryz.func4, Tryz.ntmps4
  go_wp2_with fail
  refine (l15Open a n c w HB.out hc hm).mono ?_
  rintro e w1 ⟨rfl, hR, hb⟩
  have HR : Hid (Rd w1 w.heap.size (w.heap.size + 1) 0) := hR
  have HB1 : Hid (Below w.heap.size w w1) := hb
  clear hR hb
  go_wp2_with fail
  refine (l2Bent w.heap.size (w.heap.size + 1) 0 w1 HR.out (by omega)).mono ?_
  rintro e w2 ⟨g, cap, xs, rfl, hown, hl, hsm, _, hbar⟩
  have F : Hid (Prog4 w2 g cap xs ∧ Bar w.heap.size w1 w2) := ⟨⟨hown.cells.2.1, hown.cells.2.2.2, by omega, hsm⟩, hbar⟩
  clear hown hsm hbar
  go_wp2
  go_ret
  exact ⟨g, cap, xs, rfl, F.out.1, HB1.out.trans (F.out.2.below (Nat.le_refl _) HB1.out.size)⟩

theorem Strs.belowQ {w w' : World} {g B : Nat} {ps : List (List UInt8)} (h : Strs w g ps) (hb : Below B w w') (hB : g < B) : Strs w' g ps :=
  ⟨Nat.lt_of_lt_of_le h.1 hb.size, fun i p hp => by rw [hb.cell (p := ⟨g, i, none⟩) hB]; exact h.2 i p hp⟩

set_option maxHeartbeats 1000000 in
theorem ofCQ (rb B p lb c n : Nat) (ps : List (List UInt8)) (w : World) (h : Rd w rb B p) (hp : p ≤ 2 ^ 40) (hz : Strs w lb ps) (hzl : ps.length = n) (h1 : 1 ≤ n) (h2 : n ≤ 2 ^ 40) (hl : lb ≠ rb) :
    Calls Tryz.prog 30 #[.pointer (some ⟨rb, 0, none⟩), .slice (some ⟨lb, 0, none⟩) n c] w fun e w' => (∃ q, q ∈ ps ∧ e = .returned (.string (str q))) ∧ Rd w' rb B (p + 1) ∧ Only rb w w' := by
  have HR : Hid (Rd w rb B p) := h
  have HZ : Hid (Strs w lb ps) := hz
  have HL : Hid (ps.length = n) := hzl
  clear h hz hzl
  go_enter Tryz.func30, Tryz.ntmps30
  go_wp2_with fail
  refine (pick rb B p n w HR.out hp (by omega) (by omega)).mono ?_
  rintro e w1 ⟨⟨r, rfl, r0, r1⟩, hR, hO⟩
  obtain ⟨k, rfl⟩ := Int.eq_ofNat_of_zero_le r0
  have hk : k < n := by omega
  obtain ⟨q, hq⟩ : ∃ q, ps[k]? = some q := ⟨ps[k]'(by rw [HL.out]; exact hk), by simp [HL.out, hk]⟩
  have hc : w1.cell? ⟨lb, k, none⟩ = some (.string (str q)) := by
    rw [hO.cell (p := ⟨lb, k, none⟩) hl]; exact HZ.out.2 k q hq
  have HQ : Hid (q ∈ ps) := List.mem_of_getElem? hq
  have HF : Hid (Rd w1 rb B (p + 1) ∧ Only rb w w1) := ⟨hR, hO⟩
  clear hq hR hO
  go_wp2
  go_ret
  exact ⟨⟨q, HQ.out, rfl⟩, HF.out⟩

theorem wrap_ownQ (n : Int) (h0 : 0 ≤ n) (h1 : n < 9223372036854775808) : IntKind.i64.wrap n = n := by
  have hm : n % 18446744073709551616 = n := by omega
  simp [IntKind.wrap, IntKind.bits, IntKind.signed, hm]
  omega
theorem size_appQ (a b : ByteArray) : (a ++ b).size = a.size + b.size := by
  rw [← size_list, list_append, List.length_append, size_list, size_list]

/-- Some text, not long. -/
def SomeTextQ (e : Ending) : Prop := ∃ t : ByteArray, e = .returned (.string t) ∧ t.size ≤ 2000

def seven : List (List UInt8) := [[], [48], [44], [32], [45], [102, 97, 105, 108], [49]]
theorem seven_new (w : World) : Strs (w.alloc (.cells #[.string ⟨#[]⟩, .string ⟨#[48]⟩, .string ⟨#[44]⟩, .string ⟨#[32]⟩, .string ⟨#[45]⟩, .string ⟨#[102, 97, 105, 108]⟩, .string ⟨#[49]⟩] 9)) w.heap.size seven := by
  refine ⟨by rw [size_new]; omega, fun i p hp => ?_⟩
  rw [cell_heap (heap_new _ _)]
  have hl := (List.getElem?_eq_some_iff.1 hp).1
  match i, hp with
  | 0, hp | 1, hp | 2, hp | 3, hp | 4, hp | 5, hp | 6, hp => simp [seven] at hp; subst hp; rfl
theorem seven_small {q : List UInt8} (h : q ∈ seven) : (str q).size ≤ 4 := by
  rw [str_size]
  simp [seven] at h
  rcases h with rfl | rfl | rfl | rfl | rfl | rfl | rfl <;> simp

set_option maxRecDepth 100000 in
set_option maxHeartbeats 4000000 in
theorem drawProgRead (a : Option Addr) (n c : Nat) (w : World) (h : Bytes w w.heap.size a n) (hc : n ≤ c) (hm : c ≤ maxLen) :
    Calls Tryz.prog 11 #[.slice a n c] w fun e w' => SomeTextQ e ∧ Below w.heap.size w w' := by
  have HB : Hid (Bytes w w.heap.size a n) := h
  clear h
  go_enter Tryz.func11, Tryz.ntmps11
  go_wp2_with fail
  refine (l15Open a n c w HB.out hc hm).mono ?_
  rintro e w1 ⟨rfl, hR, hb⟩
  have HR : Hid (Rd w1 w.heap.size (w.heap.size + 1) 0) := hR
  have HB1 : Hid (Below w.heap.size w w1) := hb
  clear hR hb
  go_wp2_with fail
  refine (l2Bent w.heap.size (w.heap.size + 1) 0 w1 HR.out (by omega)).mono ?_
  rintro e w2 ⟨g, cap, xs, rfl, hown, hl, hsm, ⟨p', hp', hR2⟩, hbar⟩
  have A2 : Hid (At4 w2 g 0 xs) := hown.cells.2.1
  have B2 : Hid (Below w.heap.size w w2) := HB1.out.trans (hbar.below (Nat.le_refl _) HB1.out.size)
  have R2 : Hid (Rd w2 w.heap.size (w.heap.size + 1) p') := hR2
  have HSM : Hid (Sm4 xs) := hsm
  clear hown hbar hsm hR2
  go_wp2_with fail
  refine (specProgText _ cap xs w2 (.inr ⟨_, _, rfl, A2.out⟩) (by omega) HSM.out.wf).mono ?_
  rintro e w3 ⟨rfl, b3⟩
  have B3 : Hid (Below w.heap.size w w3) := B2.out.trans (b3.mono B2.out.size)
  have R3 : Hid (Rd w3 w.heap.size (w.heap.size + 1) p') := R2.out.below b3
  clear b3
  obtain ⟨s, hs⟩ : ∃ s, s = str (progTo xs xs.length) := ⟨_, rfl⟩
  have hs1 : s.size ≤ 781 := by
    have := progTo_len xs HSM.out.wf xs.length (Nat.le_refl _)
    rw [hs, str_size]; omega
  rw [← hs]
  clear hs hl
  by_cases hs0' : s.size = 0
  · have z0 : ((s.size : Int) == 0) = true := by simp [hs0']
    go_wp2
    go_ret
    exact ⟨⟨s, rfl, by omega⟩, B3.out⟩
  have hs0 : 1 ≤ s.size := by omega
  have z0 : ((s.size : Int) == 0) = false := beq_eq_false_iff_ne.2 (by omega)
  clear hs0'
  go_wp2_with fail
  refine (pick w.heap.size (w.heap.size + 1) p' 2 w3 R3.out (by omega) (by omega) (by omega)).mono ?_
  rintro e w4 ⟨⟨r, rfl, r0, r1⟩, hR, hO⟩
  have R4 : Hid (Rd w4 w.heap.size (w.heap.size + 1) (p' + 1)) := hR
  have B4 : Hid (Below w.heap.size w w4) := B3.out.trans (hO.below (Nat.le_refl _))
  clear hR hO
  by_cases hr : r = 0
  · have hr' : (r == 0) = true := by simp [hr]
    go_wp2
    go_ret
    exact ⟨⟨s, rfl, by omega⟩, B4.out⟩
  · have hr' : (r == 0) = false := by simp [hr]
    go_wp2_with fail
    refine (pick w.heap.size (w.heap.size + 1) (p' + 1) s.size w4 R4.out (by omega) (by omega) (by omega)).mono ?_
    rintro e w5 ⟨⟨k, rfl, k0, k1⟩, hR, hO⟩
    have R5 : Hid (Rd w5 w.heap.size (w.heap.size + 1) (p' + 1 + 1)) := hR
    have B5 : Hid (Below w.heap.size w w5) := B4.out.trans (hO.below (Nat.le_refl _))
    clear hR hO
    obtain ⟨kk, rfl⟩ := Int.eq_ofNat_of_zero_le k0
    have hkk : kk < s.size := by omega
    obtain ⟨A, hA⟩ : ∃ A, A = s.extract 0 kk := ⟨_, rfl⟩
    have zA : A.size ≤ 781 := by rw [hA, ByteArray.size_extract]; omega
    have sA : ∀ W : World, (Instr.slice 9 (.string s) none (some (.int .i64 kk)) none).run Tryz.prog W = .ok (.string A) W := by
      intro W
      rw [run_slice_string_h W 9 s Tryz.underlying9 .i64 kk (by omega) (by omega), hA]
      simp
    have SC : Hid (∀ j : Int, 0 ≤ j → j < 2 → ∃ C : ByteArray, C.size ≤ 781 ∧ ∀ W : World, (Instr.slice 9 (.string s) (some (.int .i64 ((kk : Int) + j))) none none).run Tryz.prog W = .ok (.string C) W) := by
      intro j j0 j1
      refine ⟨s.extract ((kk : Int) + j).toNat s.size, by rw [ByteArray.size_extract]; omega, fun W => ?_⟩
      rw [run_slice_string_l W 9 s Tryz.underlying9 .i64 ((kk : Int) + j) (by omega) (by omega)]
    clear hA
    have OF : Hid (Calls Tryz.prog 30 #[.pointer (some ⟨w.heap.size, 0, none⟩), .slice (some ⟨w5.heap.size, 0, none⟩) 7 7] (w5.alloc (.cells #[.string ⟨#[]⟩, .string ⟨#[48]⟩, .string ⟨#[44]⟩, .string ⟨#[32]⟩, .string ⟨#[45]⟩, .string ⟨#[102, 97, 105, 108]⟩, .string ⟨#[49]⟩] 9)).drew fun e w' => ∃ t : ByteArray, t.size ≤ 4 ∧ e = .returned (.string t) ∧ Hid (Rd w' w.heap.size (w.heap.size + 1) (p' + 3) ∧ Below w.heap.size w w')) := by
      have hlt : w.heap.size < w5.heap.size := Nat.lt_of_lt_of_le R5.out.1 R5.out.2.1
      have X := (B5.out.alloc B5.out.size (.cells #[.string ⟨#[]⟩, .string ⟨#[48]⟩, .string ⟨#[44]⟩, .string ⟨#[32]⟩, .string ⟨#[45]⟩, .string ⟨#[102, 97, 105, 108]⟩, .string ⟨#[49]⟩] 9)).drew
      refine (ofCQ w.heap.size (w.heap.size + 1) (p' + 1 + 1) w5.heap.size 7 7 seven _ ((R5.out.alloc _).below ((Below.refl _ _).drew)) (by omega) ((seven_new w5).belowQ (B := w5.heap.size + 1) ((Below.refl _ _).drew) (by omega)) rfl (by omega) (by omega) (by omega)).mono ?_
      rintro e w' ⟨⟨q, hq, rfl⟩, h1, h2⟩
      exact ⟨_, seven_small hq, rfl, h1, X.trans (h2.below (Nat.le_refl _))⟩
    have PK : Hid (∀ W : World, Rd W w.heap.size (w.heap.size + 1) (p' + 3) → Below w.heap.size w W → Calls Tryz.prog 29 #[.pointer (some ⟨w.heap.size, 0, none⟩), .int .i64 2] W fun e w' => ∃ (j : Int) (C : ByteArray), 0 ≤ j ∧ j < 2 ∧ 0 ≤ (kk : Int) + j ∧ (kk : Int) + j ≤ s.size ∧ IntKind.i64.wrap ((kk : Int) + j) = (kk : Int) + j ∧ e = .returned (.int .i64 j) ∧ C.size ≤ 781 ∧ (∀ W : World, (Instr.slice 9 (.string s) (some (.int .i64 ((kk : Int) + j))) none none).run Tryz.prog W = .ok (.string C) W) ∧ Hid (Below w.heap.size w w')) := by
      intro W h1 h2
      refine (pick w.heap.size (w.heap.size + 1) (p' + 3) 2 W h1 (by omega) (by omega) (by omega)).mono ?_
      rintro e w' ⟨⟨j, rfl, j0, j1⟩, _, hO⟩
      obtain ⟨C, c1, c2⟩ := SC.out j j0 j1
      exact ⟨j, C, j0, j1, by omega, by omega, wrap_ownQ _ (by omega) (by omega), rfl, c1, c2, h2.trans (hO.below (Nat.le_refl _))⟩
    go_wp2_with fail
    go_region_with (first | (go_at_call 30; refine OF.out.mono ?_; rintro e w6 ⟨t, ht, rfl, HF⟩; have n1 : ¬ 9223372036854775807 < A.size + t.size := by omega) | (go_at_call 29; refine (PK.out _ HF.out.1 HF.out.2).mono ?_; rintro e w7 ⟨j, C, j0, j1, j2, j3, j4, rfl, zC, sC, HG⟩; have n2 : ¬ 9223372036854775807 < A.size + t.size + C.size := by omega))
    all_goals
      go_wp2
      go_ret
      exact ⟨⟨_, rfl, by rw [size_appQ, size_appQ]; omega⟩, HG.out⟩
end Go.Proofs.YtbcnmmofccackaaGreatDoor.Own
