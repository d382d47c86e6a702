/-
  Own texts, bundled: Dec.
-/
import Derived.Test.YtmcpefikmcaemaaGreatDoorPk1
import Derived.Lib.ItoaNum
import Derived.Lib.ItoaLen
import Derived.Laws.IdiomStrings
import Derived.Laws.BytesString
import Derived.Laws.Concat
namespace Go.Proofs.YtmcpefikmcaemaaGreatDoor.Own
open Go.RowKit

theorem conv1 (d : Nat) (hd : d < 10) (W : World) : ∃ t : ByteArray, (convert 22 9 (.slice (some ⟨W.heap.size, 0, none⟩) 1 1)).run Tryz.prog (W.alloc (.cells #[.int .u8 (48 + (d : Int))] 5)) = .ok (.string t) (W.alloc (.cells #[.int .u8 (48 + (d : Int))] 5)) ∧ t.size = 1 ∧ Hid (t.data.toList = [UInt8.ofNat (48 + d)]) := by
  refine ⟨str [UInt8.ofNat (48 + d)], ?_, rfl, rfl⟩
  refine run_convert_bytes_back (P := Tryz.prog) _ 22 9 5 ⟨W.heap.size, 0, none⟩ 1 [UInt8.ofNat (48 + d)] Tryz.underlying22 Tryz.underlying5 Tryz.underlying9 ?_
  intro j hj
  simp at hj
  subst hj
  have e2 : (⟨W.heap.size, 0, none⟩ : Addr).add 0 = ⟨W.heap.size, 0, none⟩ := by simp [Addr.add]
  rw [e2, cell_heap (heap_new _ _)]
  simp
  omega

set_option maxRecDepth 100000 in
set_option maxHeartbeats 1000000 in
theorem decPos (N : Nat) (w : World) (hN : N < 9223372036854775808) :
    Calls Tryz.prog 33 #[.int .i64 N] w fun e w' => e = .returned (.string (str (Lib.decDigits N))) ∧ Below w.heap.size w w' := by
  have HL : Hid ((Lib.decDigits N).length ≤ 20) := by
    show _ ≤ _
    rw [Lib.decDigits_length]; exact Lib.nDigits_le20 N (by omega)
  go_enter Tryz.func33, Tryz.ntmps33
  go_wp2
  go_loopw [0, 3] (fun n out wr => ∃ (m : Nat) (s : ByteArray), m ≤ N ∧ n = .int .i64 m ∧ out = .string s ∧ Hid (Lib.decDigits N = Lib.decDigits m ++ s.data.toList) ∧ Below w.heap.size w wr) (fun n _ _ => (intOf n).toNat)
  case atStart => exact ⟨N, ⟨#[]⟩, Nat.le_refl _, rfl, rfl, by show _ = _; simp, Below.refl _ _⟩
  case round =>
    obtain ⟨m, s, hm, rfl, rfl, hd, hB⟩ := hrel
    have hs : s.size ≤ 20 := by
      have h1 := HL.out
      rw [hd.out, List.length_append, size_list] at h1
      omega
    by_cases h9 : 9 < m
    · obtain ⟨d, e1, l1, e1'⟩ : ∃ d : Nat, (m : Int) % 10 = d ∧ d < 10 ∧ d = m % 10 := ⟨m % 10, by simp, Nat.mod_lt _ (by omega), rfl⟩
      obtain ⟨q, e2, e2'⟩ : ∃ q : Nat, (m : Int) / 10 = q ∧ q = m / 10 := ⟨m / 10, by simp, rfl⟩
      have E1 : Hid (d = m % 10) := e1'
      have E2 : Hid (q = m / 10) := e2'
      have hq : q < m := by omega
      clear e1' e2'
      obtain ⟨t, hcv, hts, HT⟩ := conv1 d l1 wr
      go_wp2
      go_roundw
      case rel =>
        refine ⟨q, _, by omega, rfl, rfl, ?_, hB.alloc hB.size _⟩
        show _ = _
        rw [hd.out, dec_step m (by omega), list_append, HT.out, ← E1.out, ← E2.out]
        rfl
      case measure => simp [intOf]; omega
    · obtain ⟨t, hcv, hts, HT⟩ := conv1 m (by omega) wr
      go_wp2
      go_ret
      refine ⟨ret_str (str_eq ?_), hB.alloc hB.size _⟩
      rw [hd.out, list_append, HT.out, Lib.decDigits_one (by omega)]

set_option maxRecDepth 100000 in
set_option maxHeartbeats 1000000 in
theorem l15Dec (n : Int) (w : World) (h0 : -9223372036854775808 ≤ n) (h1 : n ≤ 9223372036854775807) :
    Calls Tryz.prog 33 #[.int .i64 n] w fun e w' => e = .returned (.string (str (Lib.itoa n))) ∧ Below w.heap.size w w' := by
  by_cases hneg : n < 0
  · by_cases hmin : n < -9223372036854775807
    · have hE : Hid (str (Lib.itoa n) = ⟨#[45, 57, 50, 50, 51, 51, 55, 50, 48, 51, 54, 56, 53, 52, 55, 55, 53, 56, 48, 56]⟩) := by
        have : n = -9223372036854775808 := by omega
        show _ = _
        rw [this]
        decide +kernel
      go_enter Tryz.func33, Tryz.ntmps33
      go_wp2
      go_ret
      exact ⟨ret_str hE.out.symm, Below.refl _ _⟩
    · obtain ⟨m, hm⟩ : ∃ m : Nat, -n = m := ⟨n.natAbs, by omega⟩
      have hE : Hid (Lib.itoa n = 45 :: Lib.decDigits m) := by
        show _ = _
        rw [itoa_neg' n hneg]
        congr 2; omega
      have hml : m < 9223372036854775808 := by omega
      obtain ⟨t, ht⟩ : ∃ t, t = str (Lib.decDigits m) := ⟨_, rfl⟩
      have hts : t.size ≤ 20 := by rw [ht, str_size, Lib.decDigits_length]; exact Lib.nDigits_le20 m (by omega)
      have HT : Hid (t = str (Lib.decDigits m)) := ht
      clear ht
      go_enter Tryz.func33, Tryz.ntmps33
      go_wp2_with fail
      refine (decPos m _ hml).mono ?_
      rintro e w1 ⟨rfl, hb⟩
      rw [← HT.out]
      have HB : Hid (Below w.heap.size w w1) := hb
      clear hb
      go_wp2
      go_ret
      refine ⟨ret_str ?_, HB.out⟩
      rw [HT.out, hE.out]
      exact str_append [45] _
  · obtain ⟨m, rfl⟩ := Int.eq_ofNat_of_zero_le (by omega : 0 ≤ n)
    rw [itoa_pos' _ hneg]
    simpa using decPos m w (by omega)
end Go.Proofs.YtmcpefikmcaemaaGreatDoor.Own
