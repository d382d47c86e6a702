/-
  Own text: what spec.DrawBoxText and spec.DrawBoxRead do: boxes, some text.
-/
import Derived.Test.YtipbabkbmiaalaaDoorReadSide
import Derived.Test.YtipbabkbmiaalaaDoorTextSpec
import Derived.Deep.RegionWith
namespace Go.Proofs.YtipbabkbmiaalaaDoor.Own
open Go.RowKit
set_option linter.unusedVariables false
set_option linter.unusedSimpArgs false

theorem Sm.wf {xs : List (Int × Int)} (h : Sm xs) : Wf xs := fun k hk => by
  have := h k hk
  exact ⟨⟨by omega, by omega⟩, ⟨by omega, by omega⟩⟩

set_option maxHeartbeats 1000000 in
theorem drawBoxText (a : Option Addr) (n c : Nat) (w : World) (h : Bytes w w.heap.size a n) (hc : n ≤ c) (hm : c ≤ maxLen) :
    Calls Tryd.prog 7 #[.slice a n c] w fun e w' => ∃ (xs : List (Int × Int)) (ob : Nat), (xs.length = 3 ∨ xs.length = 4) ∧ e = .returned (.slice (some ⟨ob, 0, none⟩) xs.length 4) ∧ BoxAt w' ob 0 xs ∧ Sm xs ∧ w.heap.size ≤ ob ∧ Below w.heap.size w w' := by
  have HB : Hid (Bytes w w.heap.size a n) := h
  clear h
  go_enter Tryd.func7, Tryd.ntmps7
  go_wp2_with fail
  refine (l15Open a n c w HB.out hc hm).mono ?_
  rintro e w1 ⟨rfl, hR, hb⟩
  have HR : Hid (Rd w1 w.heap.size (w.heap.size + 1) 0) := hR
  have HB1 : Hid (Below w.heap.size w w1) := hb
  clear hR hb
  go_wp2_with fail
  refine (l1Boxes w.heap.size (w.heap.size + 1) 0 w1 HR.out (by omega)).mono ?_
  rintro e w2 ⟨xs, hl, rfl, hat, hsm, hrow, _, hbar⟩
  have F : Hid (BoxAt w2 w1.heap.size 0 xs ∧ Bar w.heap.size w1 w2) := ⟨hat, hbar⟩
  have HSM : Hid (Sm xs) := hsm
  clear hat hrow hbar hsm
  go_wp2
  go_ret
  exact ⟨xs, w1.heap.size, hl, rfl, F.out.1, HSM.out, HB1.out.size, HB1.out.trans (F.out.2.below (Nat.le_refl _) HB1.out.size)⟩

set_option maxHeartbeats 1000000 in
theorem ofC (rb B p lb c n : Nat) (ps : List (List UInt8)) (w : World) (h : Rd w rb B p) (hp : p ≤ 2 ^ 40) (hz : Strs w lb ps) (hzl : ps.length = n) (h1 : 1 ≤ n) (h2 : n ≤ 2 ^ 40) (hl : lb ≠ rb) :
    Calls Tryd.prog 38 #[.pointer (some ⟨rb, 0, none⟩), .slice (some ⟨lb, 0, none⟩) n c] w fun e w' => (∃ q, q ∈ ps ∧ e = .returned (.string (str q))) ∧ Rd w' rb B (p + 1) ∧ Only rb w w' := by
  have HR : Hid (Rd w rb B p) := h
  have HZ : Hid (Strs w lb ps) := hz
  have HL : Hid (ps.length = n) := hzl
  clear h hz hzl
  go_enter Tryd.func38, Tryd.ntmps38
  go_wp2_with fail
  refine (pick rb B p n w HR.out hp (by omega) (by omega)).mono ?_
  rintro e w1 ⟨⟨r, rfl, r0, r1⟩, hR, hO⟩
  obtain ⟨k, rfl⟩ := Int.eq_ofNat_of_zero_le r0
  have hk : k < n := by omega
  obtain ⟨q, hq⟩ : ∃ q, ps[k]? = some q := ⟨ps[k]'(by rw [HL.out]; exact hk), by simp [HL.out, hk]⟩
  have hc : w1.cell? ⟨lb, k, none⟩ = some (.string (str q)) := by
    rw [hO.cell (p := ⟨lb, k, none⟩) hl]; exact HZ.out.2 k q hq
  have HQ : Hid (q ∈ ps) := List.mem_of_getElem? hq
  have HF : Hid (Rd w1 rb B (p + 1) ∧ Only rb w w1) := ⟨hR, hO⟩
  clear hq hR hO
  go_wp2
  go_ret
  exact ⟨⟨q, HQ.out, rfl⟩, HF.out⟩

theorem wrap_own (n : Int) (h0 : 0 ≤ n) (h1 : n < 9223372036854775808) : IntKind.i64.wrap n = n := by
  have hm : n % 18446744073709551616 = n := by omega
  simp [IntKind.wrap, IntKind.bits, IntKind.signed, hm]
  omega
theorem size_app (a b : ByteArray) : (a ++ b).size = a.size + b.size := by
  rw [← size_list, list_append, List.length_append, size_list, size_list]

/-- Some text, not long. -/
def SomeText (e : Ending) : Prop := ∃ t : ByteArray, e = .returned (.string t) ∧ t.size ≤ 1000

def six : List (List UInt8) := [[], [48], [47], [32], [45], [120]]
theorem six_new (w : World) : Strs (w.alloc (.cells #[.string ⟨#[]⟩, .string ⟨#[48]⟩, .string ⟨#[47]⟩, .string ⟨#[32]⟩, .string ⟨#[45]⟩, .string ⟨#[120]⟩] 9)) w.heap.size six := by
  refine ⟨by rw [size_new]; omega, fun i p hp => ?_⟩
  rw [cell_heap (heap_new _ _)]
  have hl := (List.getElem?_eq_some_iff.1 hp).1
  match i, hp with
  | 0, hp | 1, hp | 2, hp | 3, hp | 4, hp | 5, hp => simp [six] at hp; subst hp; rfl
theorem six_small {q : List UInt8} (h : q ∈ six) : (str q).size ≤ 1 := by
  rw [str_size]
  simp [six] at h
  rcases h with rfl | rfl | rfl | rfl | rfl | rfl <;> simp

set_option maxHeartbeats 4000000 in
theorem drawBoxRead (a : Option Addr) (n c : Nat) (w : World) (h : Bytes w w.heap.size a n) (hc : n ≤ c) (hm : c ≤ maxLen) :
    Calls Tryd.prog 14 #[.slice a n c] w fun e w' => SomeText e ∧ Below w.heap.size w w' := by
  have HB : Hid (Bytes w w.heap.size a n) := h
  clear h
  go_enter Tryd.func14, Tryd.ntmps14
  go_wp2_with fail
  refine (l15Open a n c w HB.out hc hm).mono ?_
  rintro e w1 ⟨rfl, hR, hb⟩
  have HR : Hid (Rd w1 w.heap.size (w.heap.size + 1) 0) := hR
  have HB1 : Hid (Below w.heap.size w w1) := hb
  clear hR hb
  go_wp2_with fail
  refine (l1Boxes w.heap.size (w.heap.size + 1) 0 w1 HR.out (by omega)).mono ?_
  rintro e w2 ⟨xs, hl, rfl, hat, hsm, hrow, ⟨p', hp', hR2⟩, hbar⟩
  have A2 : Hid (BoxAt w2 w1.heap.size 0 xs) := hat
  have B2 : Hid (Below w.heap.size w w2) := HB1.out.trans (hbar.below (Nat.le_refl _) HB1.out.size)
  have R2 : Hid (Rd w2 w.heap.size (w.heap.size + 1) p') := hR2
  have HSM : Hid (Sm xs) := hsm
  clear hat hrow hbar hsm hR2
  go_wp2_with fail
  refine (specText _ 4 xs w2 (.inr ⟨_, _, rfl, A2.out⟩) (by omega) HSM.out.wf).mono ?_
  rintro e w3 ⟨rfl, b3⟩
  have B3 : Hid (Below w.heap.size w w3) := B2.out.trans (b3.mono B2.out.size)
  have R3 : Hid (Rd w3 w.heap.size (w.heap.size + 1) p') := R2.out.below b3
  clear b3
  obtain ⟨s, hs⟩ : ∃ s, s = str (textTo xs xs.length) := ⟨_, rfl⟩
  have hs1 : s.size ≤ 176 := by
    have := textTo_len xs HSM.out.wf xs.length (Nat.le_refl _)
    rw [hs, str_size]; omega
  have hs0 : 1 ≤ s.size := by
    rw [hs, str_size, textTo_eq _ _ (Nat.le_refl _), List.take_length]
    rcases Nat.eq_zero_or_pos (textOf xs).length with h0 | h0
    · have := textOf_inj (xs := xs) (ys := []) (by rw [List.eq_nil_of_length_eq_zero h0]; rfl)
      subst this; simp at hl
    · exact h0
  rw [← hs]
  clear hs hl
  go_wp2_with fail
  refine (pick w.heap.size (w.heap.size + 1) p' 2 w3 R3.out (by omega) (by omega) (by omega)).mono ?_
  rintro e w4 ⟨⟨r, rfl, r0, r1⟩, hR, hO⟩
  have R4 : Hid (Rd w4 w.heap.size (w.heap.size + 1) (p' + 1)) := hR
  have B4 : Hid (Below w.heap.size w w4) := B3.out.trans (hO.below (Nat.le_refl _))
  clear hR hO
  by_cases hr : r = 0
  · have hr' : (r == 0) = true := by simp [hr]
    go_wp2
    go_ret
    exact ⟨⟨s, rfl, by omega⟩, B4.out⟩
  · have hr' : (r == 0) = false := by simp [hr]
    go_wp2_with fail
    refine (pick w.heap.size (w.heap.size + 1) (p' + 1) s.size w4 R4.out (by omega) (by omega) (by omega)).mono ?_
    rintro e w5 ⟨⟨k, rfl, k0, k1⟩, hR, hO⟩
    have R5 : Hid (Rd w5 w.heap.size (w.heap.size + 1) (p' + 1 + 1)) := hR
    have B5 : Hid (Below w.heap.size w w5) := B4.out.trans (hO.below (Nat.le_refl _))
    clear hR hO
    obtain ⟨kk, rfl⟩ := Int.eq_ofNat_of_zero_le k0
    have hkk : kk < s.size := by omega
    obtain ⟨A, hA⟩ : ∃ A, A = s.extract 0 kk := ⟨_, rfl⟩
    have zA : A.size ≤ 176 := by rw [hA, ByteArray.size_extract]; omega
    have sA : ∀ W : World, (Instr.slice 9 (.string s) none (some (.int .i64 kk)) none).run Tryd.prog W = .ok (.string A) W := by
      intro W
      rw [run_slice_string_h W 9 s Tryd.underlying9 .i64 kk (by omega) (by omega), hA]
      simp
    have SC : Hid (∀ j : Int, 0 ≤ j → j < 2 → ∃ C : ByteArray, C.size ≤ 176 ∧ ∀ W : World, (Instr.slice 9 (.string s) (some (.int .i64 ((kk : Int) + j))) none none).run Tryd.prog W = .ok (.string C) W) := by
      intro j j0 j1
      refine ⟨s.extract ((kk : Int) + j).toNat s.size, by rw [ByteArray.size_extract]; omega, fun W => ?_⟩
      rw [run_slice_string_l W 9 s Tryd.underlying9 .i64 ((kk : Int) + j) (by omega) (by omega)]
    clear hA
    have OF : Hid (Calls Tryd.prog 38 #[.pointer (some ⟨w.heap.size, 0, none⟩), .slice (some ⟨w5.heap.size, 0, none⟩) 6 6] (w5.alloc (.cells #[.string ⟨#[]⟩, .string ⟨#[48]⟩, .string ⟨#[47]⟩, .string ⟨#[32]⟩, .string ⟨#[45]⟩, .string ⟨#[120]⟩] 9)).drew fun e w' => ∃ t : ByteArray, t.size ≤ 1 ∧ e = .returned (.string t) ∧ Hid (Rd w' w.heap.size (w.heap.size + 1) (p' + 3) ∧ Below w.heap.size w w')) := by
      have hlt : w.heap.size < w5.heap.size := Nat.lt_of_lt_of_le R5.out.1 R5.out.2.1
      have X := (B5.out.alloc B5.out.size (.cells #[.string ⟨#[]⟩, .string ⟨#[48]⟩, .string ⟨#[47]⟩, .string ⟨#[32]⟩, .string ⟨#[45]⟩, .string ⟨#[120]⟩] 9)).drew
      refine (ofC w.heap.size (w.heap.size + 1) (p' + 1 + 1) w5.heap.size 6 6 six _ ((R5.out.alloc _).below ((Below.refl _ _).drew)) (by omega) ((six_new w5).below (B := w5.heap.size + 1) ((Below.refl _ _).drew) (by omega)) rfl (by omega) (by omega) (by omega)).mono ?_
      rintro e w' ⟨⟨q, hq, rfl⟩, h1, h2⟩
      exact ⟨_, six_small hq, rfl, h1, X.trans (h2.below (Nat.le_refl _))⟩
    have PK : Hid (∀ W : World, Rd W w.heap.size (w.heap.size + 1) (p' + 3) → Below w.heap.size w W → Calls Tryd.prog 37 #[.pointer (some ⟨w.heap.size, 0, none⟩), .int .i64 2] W fun e w' => ∃ (j : Int) (C : ByteArray), 0 ≤ j ∧ j < 2 ∧ 0 ≤ (kk : Int) + j ∧ (kk : Int) + j ≤ s.size ∧ IntKind.i64.wrap ((kk : Int) + j) = (kk : Int) + j ∧ e = .returned (.int .i64 j) ∧ C.size ≤ 176 ∧ (∀ W : World, (Instr.slice 9 (.string s) (some (.int .i64 ((kk : Int) + j))) none none).run Tryd.prog W = .ok (.string C) W) ∧ Hid (Below w.heap.size w w')) := by
      intro W h1 h2
      refine (pick w.heap.size (w.heap.size + 1) (p' + 3) 2 W h1 (by omega) (by omega) (by omega)).mono ?_
      rintro e w' ⟨⟨j, rfl, j0, j1⟩, _, hO⟩
      obtain ⟨C, c1, c2⟩ := SC.out j j0 j1
      exact ⟨j, C, j0, j1, by omega, by omega, wrap_own _ (by omega) (by omega), rfl, c1, c2, h2.trans (hO.below (Nat.le_refl _))⟩
    go_wp2_with fail
    go_region_with (first | (go_at_call 38; refine OF.out.mono ?_; rintro e w6 ⟨t, ht, rfl, HF⟩; have n1 : ¬ 9223372036854775807 < A.size + t.size := by omega) | (go_at_call 37; refine (PK.out _ HF.out.1 HF.out.2).mono ?_; rintro e w7 ⟨j, C, j0, j1, j2, j3, j4, rfl, zC, sC, HG⟩; have n2 : ¬ 9223372036854775807 < A.size + t.size + C.size := by omega))
    all_goals
      go_wp2
      go_ret
      exact ⟨⟨_, rfl, by rw [size_app, size_app]; omega⟩, HG.out⟩
end Go.Proofs.YtipbabkbmiaalaaDoor.Own
