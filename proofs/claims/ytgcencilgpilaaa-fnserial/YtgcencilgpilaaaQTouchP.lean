/-
  Own text: what impl.boxesOf's inner closure, slices.IndexFunc and slices.ContainsFunc do with (impl.Ins).puts.
-/
import Derived.Test.YtgcencilgpilaaaQTouchCP
namespace Go.Proofs.Ytgcencilgpilaaa.Own
open Go.RowKit
set_option linter.unusedVariables false

set_option maxHeartbeats 1000000 in
theorem withputs (p1 p2 p3 p4 b : Int) (bd bb : Nat) (w : World) (hd : w.cell? ⟨bd, 0, none⟩ = some (.func (.func 151) #[] #[])) (hb : w.cell? ⟨bb, 0, none⟩ = some (.int .i64 b)) (ld : bd < w.heap.size) (lb : bb < w.heap.size) :
    Calls Try.prog 163 #[.agg #[.int .i64 p1, .int .i64 p2, .int .i64 p3, .int .i64 p4], .pointer (some ⟨bd, 0, none⟩), .pointer (some ⟨bb, 0, none⟩)] w fun e w' => e = .returned (.bool (putsQ (p1, p2, p3, p4) b)) ∧ Below w.heap.size w w' := by
  have C := fun W => putsC p1 p2 p3 p4 b W
  generalize putsQ (p1, p2, p3, p4) b = r at C ⊢
  have HC : Hid (∀ W, Calls Try.prog 151 #[.agg #[.int .i64 p1, .int .i64 p2, .int .i64 p3, .int .i64 p4], .int .i64 b] W fun e w' => e = .returned (.bool r) ∧ Below W.heap.size W w') := C
  clear C
  go_enter Try.func163, Try.ntmps163
  go_wp2_with fail
  refine (HC.out _).mono ?_
  rintro e w1 ⟨rfl, hb1⟩
  have B1 : Hid (Below w.heap.size w w1) := ((Below.refl _ _).alloc (Nat.le_refl _) _).trans (hb1.mono (by simp))
  clear hb1
  go_wp2_with fail
  go_ret
  exact ⟨rfl, B1.out⟩

set_option maxRecDepth 100000 in
set_option maxHeartbeats 1000000 in
theorem indexputs (a : Option Addr) (c : Nat) (xs : List Q4) (b : Int) (bd bb : Nat) (w : World) (h : Sl4 w a xs) (hn : xs.length ≤ 2 ^ 40) (hd : w.cell? ⟨bd, 0, none⟩ = some (.func (.func 151) #[] #[])) (hb : w.cell? ⟨bb, 0, none⟩ = some (.int .i64 b)) (ld : bd < w.heap.size) (lb : bb < w.heap.size) :
    Calls Try.prog 171 #[.slice a xs.length c, .func (.func 163) #[] #[.pointer (some ⟨bd, 0, none⟩), .pointer (some ⟨bb, 0, none⟩)]] w
      fun e w' => (∃ r : Int, e = .returned (.int .i64 r) ∧ decide (0 ≤ r) = xs.any (fun p => putsQ p b)) ∧ Below w.heap.size w w' := by
  have H1 : Hid (Sl4 w a xs) := h
  have HD : Hid (w.cell? ⟨bd, 0, none⟩ = some (.func (.func 151) #[] #[])) := hd
  have HBB : Hid (w.cell? ⟨bb, 0, none⟩ = some (.int .i64 b)) := hb
  clear h hd hb
  go_enter Try.func171, Try.ntmps171
  go_wp2
  go_loopw [8] (fun i wr => ∃ k : Nat, k ≤ xs.length ∧ i = .int .i64 k ∧ Hid ((xs.take k).any (fun p => putsQ p b) = false) ∧ Below w.heap.size w wr) (fun i _ => xs.length - (intOf i).toNat)
  case atStart => exact ⟨0, Nat.zero_le _, rfl, rfl, Below.refl _ _⟩
  case round =>
    obtain ⟨k, hk, rfl, hA, hB⟩ := hrel
    by_cases hlt : k < xs.length
    · rcases H1.out with h | ⟨b1, o1, rfl, h1⟩
      · subst h; simp at hlt
      have H1' : Hid (At4 w b1 o1 xs) := h1
      clear h1
      obtain ⟨p, hp⟩ : ∃ p, p = xs.getD k q0 := ⟨_, rfl⟩
      obtain ⟨ca, cb, cc, cd⟩ := H1'.out.2 k hlt
      rw [← hB.cell H1'.out.1, ← hp] at ca cb cc cd
      have HB : Hid (Below w.heap.size w wr) := hB
      have N : Hid (putsQ p b = false → (xs.take (k + 1)).any (fun p => putsQ p b) = false) := by
        intro t
        rw [any_take_succ q0 hlt, hA.out, ← hp, t]; rfl
      have F : Hid (putsQ p b = true → xs.any (fun p => putsQ p b) = true) := fun t => any_true (k := k) q0 hlt (by rw [← hp]; exact t)
      clear hp hB
      obtain ⟨p1, p2, p3, p4⟩ := p
      have CP : Hid (Calls Try.prog 163 #[.agg #[.int .i64 p1, .int .i64 p2, .int .i64 p3, .int .i64 p4], .pointer (some ⟨bd, 0, none⟩), .pointer (some ⟨bb, 0, none⟩)] wr fun e w' => e = .returned (.bool (putsQ (p1, p2, p3, p4) b)) ∧ Below wr.heap.size wr w') :=
        withputs p1 p2 p3 p4 b bd bb wr (by rw [HB.out.cell (p := ⟨bd, 0, none⟩) ld]; exact HD.out) (by rw [HB.out.cell (p := ⟨bb, 0, none⟩) lb]; exact HBB.out) (Nat.lt_of_lt_of_le ld HB.out.size) (Nat.lt_of_lt_of_le lb HB.out.size)
      generalize putsQ (p1, p2, p3, p4) b = r at CP N F
      cases r with
      | false =>
        have N' : Hid ((xs.take (k + 1)).any (fun p => putsQ p b) = false) := N.out rfl
        clear N F
        go_wp2_with fail
        refine CP.out.mono ?_
        rintro e w1 ⟨rfl, hb1⟩
        have B1 : Hid (Below w.heap.size w w1) := HB.out.trans (hb1.mono HB.out.size)
        clear hb1
        go_wp2
        go_roundw
        case rel => exact ⟨k + 1, by omega, by go_num, N'.out, B1.out⟩
        case measure => simp [intOf]; omega
      | true =>
        have F' : Hid (xs.any (fun p => putsQ p b) = true) := F.out rfl
        clear N F
        go_wp2_with fail
        refine CP.out.mono ?_
        rintro e w1 ⟨rfl, hb1⟩
        have B1 : Hid (Below w.heap.size w w1) := HB.out.trans (hb1.mono HB.out.size)
        clear hb1
        go_wp2
        go_ret
        exact ⟨⟨_, rfl, by rw [F'.out]; simp⟩, B1.out⟩
    · go_wp2
      go_ret
      have : k = xs.length := by omega
      subst this
      have h := hA.out
      rw [List.take_length] at h
      exact ⟨⟨_, rfl, by rw [h]; simp⟩, hB⟩

set_option maxHeartbeats 1000000 in
theorem containsputs (a : Option Addr) (c : Nat) (xs : List Q4) (b : Int) (bd bb : Nat) (w : World) (h : Sl4 w a xs) (hn : xs.length ≤ 2 ^ 40) (hd : w.cell? ⟨bd, 0, none⟩ = some (.func (.func 151) #[] #[])) (hb : w.cell? ⟨bb, 0, none⟩ = some (.int .i64 b)) (ld : bd < w.heap.size) (lb : bb < w.heap.size) :
    Calls Try.prog 164 #[.slice a xs.length c, .func (.func 163) #[] #[.pointer (some ⟨bd, 0, none⟩), .pointer (some ⟨bb, 0, none⟩)]] w
      fun e w' => e = .returned (.bool (xs.any (fun p => putsQ p b))) ∧ Below w.heap.size w w' := by
  have C := indexputs a c xs b bd bb w h hn hd hb ld lb
  generalize xs.any (fun p => putsQ p b) = t at C ⊢
  have HC : Hid (Calls Try.prog 171 #[.slice a xs.length c, .func (.func 163) #[] #[.pointer (some ⟨bd, 0, none⟩), .pointer (some ⟨bb, 0, none⟩)]] w
      fun e w' => (∃ r : Int, e = .returned (.int .i64 r) ∧ decide (0 ≤ r) = t) ∧ Below w.heap.size w w') := C
  clear C h hd hb
  go_enter Try.func164, Try.ntmps164
  go_wp2_with fail
  refine HC.out.mono ?_
  rintro e w1 ⟨⟨r, rfl, hr⟩, hb1⟩
  have B1 : Hid (Below w.heap.size w w1) := hb1
  have HR : Hid (decide (0 ≤ r) = t) := hr
  clear hb1 hr
  go_wp2_with fail
  go_ret
  exact ⟨ret_bool (by rw [← HR.out]), B1.out⟩
end Go.Proofs.Ytgcencilgpilaaa.Own
