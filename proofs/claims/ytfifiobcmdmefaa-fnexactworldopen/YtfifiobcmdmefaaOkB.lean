/-
  Own text: what spec.l1Num and spec.BoxOk do.
-/
import Derived.Test.YtfifiobcmdmefaaMem
namespace Go.Proofs.Ytfifiobcmdmefaa.Own
open Go.RowKit

def numOk (n : Int) : Bool := decide (-1000000 ≤ n) && decide (n ≤ 1000000)
def boxOk1 (p : Int × Int) : Bool := decide (0 ≤ p.1) && decide (p.1 ≤ 1000000) && numOk p.2
def boxOk (xs : List (Int × Int)) : Bool := xs.length == 4 && xs.all boxOk1

set_option maxHeartbeats 400000 in
theorem l1Num (n : Int) (w : World) : Calls Try.prog 157 #[.int .i64 n] w fun e w' => e = .returned (.bool (numOk n)) ∧ w' = w := by
  have e : Hid (numOk n = (decide (-1000000 ≤ n) && decide (n ≤ 1000000))) := rfl
  by_cases h1 : -1000000 ≤ n
  · by_cases h2 : n ≤ 1000000
    all_goals
      go_enter Try.func157, Try.ntmps157
      go_wp2
      go_ret
      exact ⟨ret_bool (by rw [e.out]; simp [h1, h2]), rfl⟩
  · have h1' : n < -1000000 := by omega
    go_enter Try.func157, Try.ntmps157
    go_wp2
    go_ret
    exact ⟨ret_bool (by rw [e.out]; simp; omega), rfl⟩

set_option maxRecDepth 100000 in
set_option maxHeartbeats 1000000 in
theorem specOk (a : Option Addr) (c : Nat) (xs : List (Int × Int)) (w : World) (h : Sl w a xs) (hn : xs.length ≤ 2 ^ 40) :
    Calls Try.prog 127 #[.slice a xs.length c] w fun e w' => e = .returned (.bool (boxOk xs)) ∧ w' = w := by
  have e : Hid (boxOk xs = (xs.length == 4 && xs.all boxOk1)) := rfl
  have H1 : Hid (Sl w a xs) := h
  clear h
  by_cases hl : xs.length = 4
  · have hl' : ((xs.length : Int) != 4) = false := by simp [hl]
    have HL : Hid (xs.length = 4) := hl
    clear hl
    go_enter Try.func127, Try.ntmps127
    go_wp2
    go_loop [3] (fun i => ∃ k : Nat, k ≤ xs.length ∧ i = .int .i64 k ∧ Hid ((xs.take k).all boxOk1 = true)) (fun i => xs.length - (intOf i).toNat)
    case atStart => exact ⟨0, Nat.zero_le _, rfl, rfl⟩
    case round =>
      obtain ⟨k, hk, rfl, hA⟩ := hrel
      by_cases hlt : k < xs.length
      · rcases H1.out with h | ⟨b1, o1, rfl, h1⟩
        · subst h; simp at hlt
        obtain ⟨p, hp⟩ : ∃ p, p = xs.getD k (0, 0) := ⟨_, rfl⟩
        have ca := (h1.2 k hlt).1
        have cb := (h1.2 k hlt).2
        rw [← hp] at ca cb
        have HP : Hid (p = xs.getD k (0, 0)) := hp
        clear hp h1
        obtain ⟨p1, p2⟩ := p
        have fin : boxOk1 (p1, p2) = false → Hid (boxOk xs = false) := by
          intro h
          show boxOk xs = false
          rw [e.out, all_false (0, 0) hlt (by rw [← HP.out]; exact h)]; simp
        by_cases t1 : p1 < 0
        · have F := fin (by simp [boxOk1, show ¬ 0 ≤ p1 by omega])
          clear fin
          go_wp2
          go_ret
          exact ⟨ret_bool F.out.symm, rfl⟩
        · by_cases t2 : 1000000 < p1
          · have F := fin (by simp [boxOk1, show ¬ p1 ≤ 1000000 by omega])
            clear fin
            go_wp2
            go_ret
            exact ⟨ret_bool F.out.symm, rfl⟩
          · by_cases t3 : numOk p2 = true
            · have N : Hid ((xs.take (k + 1)).all boxOk1 = true) := by
                show _ = true
                rw [all_take_succ (0, 0) hlt, hA.out, ← HP.out]
                simp [boxOk1, t3]; omega
              clear fin
              go_wp2_with (go_at_call 157; refine (l1Num _ _).mono ?_; rintro e w' ⟨rfl, rfl⟩)
              go_round
              case rel => exact ⟨k + 1, by omega, by go_num, N⟩
              case measure => simp [intOf]; omega
            · have t3' : numOk p2 = false := by simpa using t3
              have F := fin (by simp [boxOk1, t3'])
              clear fin t3
              go_wp2_with (go_at_call 157; refine (l1Num _ _).mono ?_; rintro e w' ⟨rfl, rfl⟩)
              go_ret
              exact ⟨ret_bool F.out.symm, rfl⟩
      · go_wp2
        go_ret
        have : k = xs.length := by omega
        subst this
        refine ⟨ret_bool ?_, rfl⟩
        have h := hA.out
        rw [List.take_length] at h
        rw [e.out, h, HL.out]; rfl
  · have hl' : ((xs.length : Int) != 4) = true := by simp; omega
    go_enter Try.func127, Try.ntmps127
    go_wp2
    go_ret
    refine ⟨ret_bool ?_, rfl⟩
    rw [e.out]; simp [hl]
end Go.Proofs.Ytfifiobcmdmefaa.Own
