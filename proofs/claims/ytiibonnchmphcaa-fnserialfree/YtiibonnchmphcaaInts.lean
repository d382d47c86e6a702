/-
  Own text: what laws.eqIntS, markIntS and heldIntS do.
-/
import Derived.Test.YtiibonnchmphcaaBase4
import Derived.BigQuiet
import Derived.Deep.QuietTactic
namespace Go.Proofs.Ytiibonnchmphcaa.Own
open Go.RowKit

set_option maxHeartbeats 1000000 in
theorem eqIntS (a1 a2 : Option Addr) (c1 c2 : Nat) (xs ys : List Int) (w : World) (h1 : SlI w a1 xs) (h2 : SlI w a2 ys) (l1 : xs.length ≤ 2 ^ 40) (l2 : ys.length ≤ 2 ^ 40) :
    Calls Try.prog 58 #[.slice a1 xs.length c1, .slice a2 ys.length c2] w fun e w' => e = .returned (.bool (xs == ys)) ∧ Below w.heap.size w w' := by
  have H1 : Hid (SlI w a1 xs) := h1
  have H2 : Hid (SlI w a2 ys) := h2
  clear h1 h2
  by_cases hl : xs.length = ys.length
  · have hl' : ((xs.length : Int) != (ys.length : Int)) = false := by simp [hl]
    have Hl : Hid (xs.length = ys.length) := hl
    clear hl
    go_enter Try.func58, Try.ntmps58
    go_wp2
    go_loopw [5] (fun i wr => ∃ k : Nat, k ≤ xs.length ∧ i = .int .i64 k ∧ Hid (xs.take k = ys.take k) ∧ Below w.heap.size w wr) (fun i _ => xs.length - (intOf i).toNat)
    case atStart => exact ⟨0, Nat.zero_le _, rfl, rfl, Below.refl _ _⟩
    case round =>
      obtain ⟨k, hk, rfl, hE, hB⟩ := hrel
      by_cases hlt : k < xs.length
      · have hlt2 : k < ys.length := by rw [← Hl.out]; exact hlt
        rcases H1.out with h | ⟨b1, o1, rfl, h1⟩
        · subst h; simp at hlt
        rcases H2.out with h | ⟨b2, o2, rfl, h2⟩
        · subst h; simp at hlt2
        have H1' : Hid (IntAt w b1 o1 xs) := h1
        have H2' : Hid (IntAt w b2 o2 ys) := h2
        clear h1 h2
        have HT : Hid ((xs.take (k + 1) = ys.take (k + 1)) ↔ (xs.getD k 0 = ys.getD k 0)) := by
          unfold Hid; rw [take_succ_eqG 0 hlt hlt2]; exact ⟨fun h => h.2, fun h => ⟨hE, h⟩⟩
        have ca := H1'.out.2 k hlt
        have cb := H2'.out.2 k hlt2
        rw [← hB.cell H1'.out.1] at ca
        rw [← hB.cell H2'.out.1] at cb
        have HB : Hid (Below w.heap.size w wr) := hB
        have HP := fun (h : xs.getD k 0 ≠ ys.getD k 0) => ne_of_getDG (k := k) (0 : Int) h
        have HP' : Hid (xs.getD k 0 ≠ ys.getD k 0 → (xs == ys) = false) := HP
        clear hB HP
        generalize xs.getD k 0 = p at ca HT HP'
        generalize ys.getD k 0 = q at cb HT HP'
        by_cases hpq : p = q
        · have N : Hid (xs.take (k + 1) = ys.take (k + 1)) := HT.out.2 hpq
          have hpq' : (p != q) = false := by simp [hpq]
          have HX : Hid (p = q) := hpq
          clear hpq
          go_wp2
          go_quiet (fail)
          go_wp2
          go_roundw
          case rel => exact ⟨k + 1, by omega, by go_num, N, below_drewN HB.out _⟩
          case measure => simp [intOf]; omega
        · have F : Hid ((xs == ys) = false) := HP'.out hpq
          have hpq' : (p != q) = true := by simp [hpq]
          clear hpq
          go_wp2
          go_quiet (fail)
          go_wp2
          go_ret
          exact ⟨ret_bool F.out.symm, below_drewN HB.out _⟩
      · go_wp2
        go_ret
        have : k = xs.length := by omega
        subst this
        refine ⟨ret_bool ?_, hB⟩
        have h := hE
        unfold Hid at h
        rw [List.take_length] at h
        have h3 := Hl.out
        rw [List.take_of_length_le (by omega)] at h
        simp [h]
  · have hl' : ((xs.length : Int) != (ys.length : Int)) = true := by simp; omega
    go_enter Try.func58, Try.ntmps58
    go_wp2
    go_ret
    refine ⟨ret_bool ?_, Below.refl _ _⟩
    symm
    simp
    intro h; exact hl (by rw [h])

set_option maxHeartbeats 1000000 in
theorem markIntS (b off n c : Nat) (k : Int) (w : World) (hn : n ≤ 2 ^ 40) (hk0 : 0 ≤ k) (hk : k ≤ 2 ^ 40) (hfr : ∀ o, w.frozen? ⟨b, o, none⟩ = false) (hcell : ∀ i, i < n → ∃ v, w.cell? ⟨b, off + i, none⟩ = some v ∧ v.oneCell' = true) (hb : b < w.heap.size) :
    Calls Try.prog 61 #[.slice (some ⟨b, off, none⟩) n c, .int .i64 k] w fun e w' => e = .returned (.int .i64 (k + n)) ∧ IntAt w' b off (marks1 k n) ∧ Only b w w' := by
  have HC : Hid (∀ i, i < n → ∃ v, w.cell? ⟨b, off + i, none⟩ = some v ∧ v.oneCell' = true) := hcell
  have HF : Hid (∀ o, w.frozen? ⟨b, o, none⟩ = false) := hfr
  clear hcell hfr
  go_enter Try.func61, Try.ntmps61
  go_wp2
  go_loopw [1, 5] (fun q i wr => ∃ j : Nat, j ≤ n ∧ i = .int .i64 j ∧ q = .int .i64 (k + j) ∧ IntAt wr b off (marks1 k j) ∧ (∀ i, j ≤ i → wr.cell? ⟨b, off + i, none⟩ = w.cell? ⟨b, off + i, none⟩) ∧ Only b w wr) (fun _ i _ => n - (intOf i).toNat)
  case atStart => exact ⟨0, Nat.zero_le _, rfl, by simp, ⟨hb, by simp [marks1]⟩, fun _ _ => rfl, Only.refl _ _⟩
  case round =>
    obtain ⟨j, hj, rfl, rfl, hat, hrest, ho⟩ := hrel
    by_cases hlt : j < n
    · obtain ⟨v1, hv1, hv1'⟩ := HC.out j (by omega)
      have c1 : wr.cell? ⟨b, off + j, none⟩ = some v1 := by rw [hrest _ (by omega)]; exact hv1
      have f1 : wr.frozen? ⟨b, off + j, none⟩ = false := by rw [ho.frozen]; exact HF.out _
      have HR : Hid (∀ i, j ≤ i → wr.cell? ⟨b, off + i, none⟩ = w.cell? ⟨b, off + i, none⟩) := hrest
      have HA : Hid (IntAt wr b off (marks1 k j)) := hat
      clear hrest hat hv1
      go_wp2
      go_roundw
      case rel =>
        refine ⟨j + 1, by omega, by go_num, ?_, ?_, ?_, ho.setCell _⟩
        · go_num
        · refine ⟨by simpa [World.setCell] using HA.out.1, fun i hi => ?_⟩
          rw [marks1_length] at hi
          rw [marks1_getD _ _ _ hi]
          by_cases e : i = j
          · subst e
            exact setCell_cell_same _ _ _ _ _ c1
          · have := HA.out.2 i (by rw [marks1_length]; omega)
            rw [marks1_getD _ _ _ (by omega)] at this
            rw [setCell_cell_other _ _ _ _ _ (by omega)]
            exact this
        · intro i hi
          rw [setCell_cell_other _ _ _ _ _ (by omega)]
          exact HR.out i (by omega)
      case measure => simp [intOf]; omega
    · go_wp2
      go_ret
      have : j = n := by omega
      subst this
      exact ⟨rfl, hat, ho⟩

set_option maxHeartbeats 1000000 in
theorem heldIntS (b off n c : Nat) (k : Int) (w : World) (hn : n ≤ 2 ^ 40) (hk0 : 0 ≤ k) (hk : k ≤ 2 ^ 40) (hat : IntAt w b off (marks1 k n)) :
    Calls Try.prog 62 #[.slice (some ⟨b, off, none⟩) n c, .int .i64 k] w fun e w' => e = .returned (.int .i64 (k + n)) ∧ w' = w := by
  have HA : Hid (IntAt w b off (marks1 k n)) := hat
  clear hat
  go_enter Try.func62, Try.ntmps62
  go_wp2
  go_loop [1, 5] (fun q i => ∃ j : Nat, j ≤ n ∧ i = .int .i64 j ∧ q = .int .i64 (k + j)) (fun _ i => n - (intOf i).toNat)
  case atStart => exact ⟨0, Nat.zero_le _, rfl, by simp⟩
  case round =>
    obtain ⟨j, hj, rfl, rfl⟩ := hrel
    by_cases hlt : j < n
    · have c1 := HA.out.2 j (by rw [marks1_length]; exact hlt)
      rw [marks1_getD _ _ _ hlt] at c1
      go_wp2
      go_round
      case rel => exact ⟨j + 1, by omega, by go_num, by go_num⟩
      case measure => simp [intOf]; omega
    · go_wp2
      go_ret
      have : j = n := by omega
      subst this
      exact ⟨rfl, rfl⟩

theorem markIntS0 (a : Option Addr) (c : Nat) (k : Int) (w : World) :
    Calls Try.prog 61 #[.slice a 0 c, .int .i64 k] w fun e w' => e = .returned (.int .i64 k) ∧ w' = w := by
  go_enter Try.func61, Try.ntmps61
  go_wp2
  go_loop [1, 5] (fun q i => i = .int .i64 0 ∧ q = .int .i64 k) (fun _ i => 0)
  case atStart => exact ⟨rfl, rfl⟩
  case round =>
    obtain ⟨rfl, rfl⟩ := hrel
    go_wp2
    go_ret
    exact ⟨rfl, rfl⟩

theorem heldIntS0 (a : Option Addr) (c : Nat) (k : Int) (w : World) :
    Calls Try.prog 62 #[.slice a 0 c, .int .i64 k] w fun e w' => e = .returned (.int .i64 k) ∧ w' = w := by
  go_enter Try.func62, Try.ntmps62
  go_wp2
  go_loop [1, 5] (fun q i => i = .int .i64 0 ∧ q = .int .i64 k) (fun _ i => 0)
  case atStart => exact ⟨rfl, rfl⟩
  case round =>
    obtain ⟨rfl, rfl⟩ := hrel
    go_wp2
    go_ret
    exact ⟨rfl, rfl⟩
end Go.Proofs.Ytiibonnchmphcaa.Own
