/-
  Own text: what spec.ProgOk does.
-/
import Derived.Test.YtgcencilgpilaaaInsOkS
namespace Go.Proofs.Ytgcencilgpilaaa.Own
open Go.RowKit
set_option linter.unusedVariables false
set_option linter.unusedSimpArgs false

set_option maxRecDepth 100000 in
set_option maxHeartbeats 1000000 in
theorem specProgOk (a : Option Addr) (c : Nat) (xs : List Q4) (w : World) (h : Sl4 w a xs) (hn : xs.length ≤ 2 ^ 40) :
    Calls Try.prog 88 #[.slice a xs.length c] w fun e w' => e = .returned (.bool (progOk xs)) ∧ Below w.heap.size w w' := by
  have E : Hid (progOk xs = (decide (xs.length ≤ 10) && xs.all insOk)) := rfl
  have H1 : Hid (Sl4 w a xs) := h
  clear h
  by_cases hl : xs.length ≤ 10
  · have HL : Hid (decide (xs.length ≤ 10) = true) := by show _ = _; simpa using hl
    go_enter Try.func88, Try.ntmps88
    go_wp2
    go_loopw [3] (fun i wr => ∃ k : Nat, k ≤ xs.length ∧ i = .int .i64 k ∧ Hid ((xs.take k).all insOk = true) ∧ Below w.heap.size w wr) (fun i _ => xs.length - (intOf i).toNat)
    case atStart => exact ⟨0, Nat.zero_le _, rfl, rfl, Below.refl _ _⟩
    case round =>
      obtain ⟨k, hk, rfl, hA, hB⟩ := hrel
      by_cases hlt : k < xs.length
      · rcases H1.out with h | ⟨b1, o1, rfl, h1⟩
        · subst h; simp at hlt
        have H1' : Hid (At4 w b1 o1 xs) := h1
        clear h1
        obtain ⟨p, hp⟩ : ∃ p, p = xs.getD k q0 := ⟨_, rfl⟩
        obtain ⟨ca, cb, cc, cd⟩ := H1'.out.2 k hlt
        rw [← hB.cell H1'.out.1, ← hp] at ca cb cc cd
        have HP : Hid (p = xs.getD k q0) := hp
        have HB : Hid (Below w.heap.size w wr) := hB
        clear hp hB
        have CP := fun W => l2Ins p W
        have N : Hid (insOk p = true → (xs.take (k + 1)).all insOk = true) := by
          intro t
          rw [all_take_succ q0 hlt, hA.out, ← HP.out, t]; rfl
        have F : Hid (insOk p = false → xs.all insOk = false) := fun t => all_false (k := k) q0 hlt (by rw [← HP.out]; exact t)
        generalize insOk p = r at CP N F
        obtain ⟨p1, p2, p3, p4⟩ := p
        have CP' : Hid (∀ W, Calls Try.prog 129 #[.agg #[.int .i64 p1, .int .i64 p2, .int .i64 p3, .int .i64 p4]] W fun e w' => e = .returned (.bool r) ∧ Below W.heap.size W w') := CP
        clear CP
        cases r with
        | true =>
          have N' : Hid ((xs.take (k + 1)).all insOk = true) := N.out rfl
          clear N F
          go_wp2_with fail
          refine (CP'.out _).mono ?_
          rintro e w1 ⟨rfl, hb1⟩
          have B1 : Hid (Below w.heap.size w w1) := HB.out.trans (hb1.mono HB.out.size)
          clear hb1
          go_wp2
          go_roundw
          case rel => exact ⟨k + 1, by omega, by go_num, N'.out, B1.out⟩
          case measure => simp [intOf]; omega
        | false =>
          have F' : Hid (xs.all insOk = false) := F.out rfl
          clear N F
          go_wp2_with fail
          refine (CP'.out _).mono ?_
          rintro e w1 ⟨rfl, hb1⟩
          have B1 : Hid (Below w.heap.size w w1) := HB.out.trans (hb1.mono HB.out.size)
          clear hb1
          go_wp2
          go_ret
          exact ⟨ret_bool (by rw [E.out, F'.out]; simp), B1.out⟩
      · go_wp2
        go_ret
        have : k = xs.length := by omega
        subst this
        refine ⟨ret_bool ?_, hB⟩
        have h := hA.out
        rw [List.take_length] at h
        rw [E.out, HL.out, h]; rfl
  · have HL : Hid (decide (xs.length ≤ 10) = false) := by show _ = _; simpa using hl
    have hl' : (10 : Int) < (xs.length : Int) := by omega
    go_enter Try.func88, Try.ntmps88
    go_wp2
    go_ret
    exact ⟨ret_bool (by rw [E.out, HL.out]; rfl), Below.refl _ _⟩
end Go.Proofs.Ytgcencilgpilaaa.Own
