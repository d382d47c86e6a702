/-
  Own text: what spec.l15Num does.
-/
import Derived.Test.YtbcnmmofccackaaGreatDoorNumRead
namespace Go.Proofs.YtbcnmmofccackaaGreatDoor.Own
open Go.RowKit
set_option linter.unusedVariables false
set_option linter.unusedSimpArgs false

theorem byte_at (s : ByteArray) (k : Nat) (h : k < s.size) : ∃ b : UInt8, s[k]'h = b ∧ s.data.toList[k]? = some b := by
  refine ⟨_, rfl, ?_⟩
  obtain ⟨⟨d⟩⟩ := s
  have h' : k < d.length := h
  simp [h']
  rfl

theorem drop_at {s : ByteArray} {k : Nat} {b : UInt8} (h : s.data.toList[k]? = some b) : s.data.toList.drop k = b :: s.data.toList.drop (k + 1) := by
  obtain ⟨h1, h2⟩ := List.getElem?_eq_some_iff.1 h
  rw [List.drop_eq_getElem_cons h1, h2]
theorem take_at {s : ByteArray} {k : Nat} {b : UInt8} (h : s.data.toList[k]? = some b) : s.data.toList.take (k + 1) = s.data.toList.take k ++ [b] := by
  obtain ⟨h1, h2⟩ := List.getElem?_eq_some_iff.1 h
  rw [List.take_succ_eq_append_getElem h1, h2]

theorem minus_tail {s : ByteArray} (h : 0 < s.size) (h45 : (s[0]'h).toNat = 45) : s.data.toList = 45 :: (s.extract 1 s.size).data.toList := by
  obtain ⟨b, hb, hg⟩ := byte_at s 0 h
  have := drop_at hg
  rw [List.drop_zero] at this
  rw [hb] at h45
  rw [this, byte_ext (b := 45) h45]
  congr 1
  rw [Lib.extract_eq]
  show _ = List.take (s.size - 1) (List.drop 1 s.data.toList)
  rw [List.take_of_length_le (by rw [List.length_drop, size_list]; exact Nat.le_refl _)]

set_option maxRecDepth 100000 in
set_option maxHeartbeats 4000000 in
theorem l15Num (s : ByteArray) (w : World) (hs : s.size ≤ 1000) : Calls Tryz.prog 53 #[.string s] w fun e w' =>
    ReadsNum Small s.data.toList e ∧ w' = w := by
  by_cases hs0 : s.size = 0
  · have HN : Hid (s.data.toList = []) := List.eq_nil_of_length_eq_zero (by rw [size_list]; exact hs0)
    go_enter Tryz.func53, Tryz.ntmps53
    go_wp2
    refine bodyPost_ret (v := .tuple #[.int .i64 0, .bool false]) (by simp [results, Tryz.results53, go_sem]) rfl ⟨.inr ⟨fun n hn h => ?_, rfl⟩, rfl⟩
    rw [HN.out] at h
    exact itoa_ne_nil n h
  have hsp : 0 < s.size := by omega
  obtain ⟨y, hy, hyg⟩ := byte_at s 0 hsp
  have HH : Hid (s.data.toList.head? = some y) := by show _ = _; rw [List.head?_eq_getElem?]; exact hyg
  clear hyg
  by_cases h45 : y.toNat = 45
  · obtain ⟨t, ht⟩ : ∃ t, t = s.extract 1 s.size := ⟨_, rfl⟩
    have HT : Hid (s.data.toList = 45 :: t.data.toList) := by
      show _ = _
      rw [ht]; exact minus_tail hsp (by rw [hy]; exact h45)
    have hsl : (Instr.slice 9 (.string s) (some (.int .i64 1)) none none).run Tryz.prog w = .ok (.string t) w := by
      rw [run_slice_string_l w 9 s Tryz.underlying9 .i64 1 (by decide) (by omega), ht]; rfl
    have hts : t.size ≤ 1000 := by
      have h1 := congrArg List.length HT.out
      rw [List.length_cons, size_list, size_list] at h1; omega
    clear ht
    have NUM : Hid (∀ n, Small n → Lib.itoa n = s.data.toList → Canon t.data.toList ∧ t.data.toList.length ≤ 17 ∧ t.data.toList.head? ≠ some 48) := by
      intro n hn h
      rcases num_of n hn with ⟨r, h1, h2, h3, h4⟩ | ⟨h1, _, _⟩
      · rw [h, HT.out] at h1
        injection h1 with _ h1
        rw [h1]; exact ⟨h2, h3, h4⟩
      · rw [h, HT.out] at h1
        exact absurd rfl h1
    have GOOD : Hid (t.data.toList.length ≤ 17 → Canon t.data.toList ∧ t.data.toList.head? ≠ some 48 → ∃ n, Small n ∧ Lib.itoa n = s.data.toList ∧ Ending.returned (.tuple #[.int .i64 (-((t.data.toList.foldl digStep 0 : Nat) : Int)), .bool true]) = .returned (.tuple #[.int .i64 n, .bool true])) := by
      intro hl h
      have := num_good_neg _ h.1 hl h.2
      exact ⟨_, this.2, by rw [this.1, HT.out], rfl⟩
    go_enter Tryz.func53, Tryz.ntmps53
    by_cases z0 : t.size = 0
    · go_wp2
      refine bodyPost_ret (v := .tuple #[.int .i64 0, .bool false]) (by simp [results, Tryz.results53, go_sem]) rfl ⟨.inr ⟨fun n hn h => ?_, rfl⟩, rfl⟩
      exact (NUM.out n hn h).1.1 (List.eq_nil_of_length_eq_zero (by rw [size_list]; exact z0))
    by_cases z17 : 17 < t.size
    · have z17' : (17 : Int) < t.size := by omega
      go_wp2
      refine bodyPost_ret (v := .tuple #[.int .i64 0, .bool false]) (by simp [results, Tryz.results53, go_sem]) rfl ⟨.inr ⟨fun n hn h => ?_, rfl⟩, rfl⟩
      have := (NUM.out n hn h).2.1
      rw [size_list] at this
      omega
    have z17' : (t.size : Int) ≤ 17 := by omega
    have zp : 0 < t.size := by omega
    have hb0 : (((t.size : Nat) : Int) == 0) = false := by rw [beq_eq_false_iff_ne]; omega
    have hb17 : decide ((17 : Int) < t.size) = false := by rw [decide_eq_false_iff_not]; omega
    obtain ⟨c0, hc0, hg0⟩ := byte_at t 0 zp
    have H0 : Hid (t.data.toList.head? = some c0) := by show _ = _; rw [List.head?_eq_getElem?]; exact hg0
    clear hg0
    by_cases c48 : c0.toNat = 48
    · have C48 : Hid (c0 = 48) := byte_ext c48
      go_wp2
      all_goals
        refine bodyPost_ret (v := .tuple #[.int .i64 0, .bool false]) (by simp [results, Tryz.results53, go_sem]) rfl ⟨.inr ⟨fun n hn h => ?_, rfl⟩, rfl⟩
        exact (NUM.out n hn h).2.2 (by rw [H0.out, C48.out])
    have hb48 : (((c0.toNat : Nat) : Int) == 48) = false := by rw [beq_eq_false_iff_ne]; omega
    have GD : Hid ((∀ c ∈ t.data.toList, 48 ≤ c.toNat ∧ c.toNat ≤ 57) → Canon t.data.toList ∧ t.data.toList.head? ≠ some 48) := by
      intro hd
      have h48 : t.data.toList.head? ≠ some 48 := by
        rw [H0.out]; intro e; injection e with e; rw [e] at c48; exact c48 rfl
      exact ⟨⟨fun e => by have := size_list t; rw [e] at this; simp at this; omega, hd, fun e => absurd e h48⟩, h48⟩
    go_wp2
    go_loop [5, 6] (fun n i => ∃ (k m : Nat), k ≤ t.size ∧ i = .int .i64 k ∧ n = .int .i64 m ∧ Hid (m = (t.data.toList.take k).foldl digStep 0) ∧ Hid (∀ c ∈ t.data.toList.take k, 48 ≤ c.toNat ∧ c.toNat ≤ 57)) (fun _ i => t.size - (intOf i).toNat)
    case atStart => exact ⟨0, 0, Nat.zero_le _, rfl, rfl, rfl, by show ∀ c ∈ _, _; simp⟩
    case round =>
      obtain ⟨k, m, hk, rfl, rfl, HM, HD⟩ := hrel
      have mb : m < 100000000000000000 := by
        have h1 := fold_lt _ HD.out 0
        rw [← HM.out, Nat.zero_add, Nat.one_mul, List.length_take] at h1
        have h2 : 10 ^ (min k t.data.toList.length) ≤ 10 ^ 17 := Nat.pow_le_pow_right (by decide) (by omega)
        exact Nat.lt_of_lt_of_le h1 h2
      by_cases hlt : k < t.size
      · obtain ⟨b, hb, hg⟩ := byte_at t k hlt
        have HG : Hid (t.data.toList[k]? = some b) := hg
        clear hg
        have MB : Hid (b ∈ t.data.toList) := List.mem_of_getElem? HG.out
        obtain ⟨x, hx⟩ : ∃ x, x = b.toNat := ⟨_, rfl⟩
        have hx2 : x < 256 := by rw [hx]; exact UInt8.toNat_lt b
        have HX : Hid (x = b.toNat) := hx
        have hbx : (t[k]'hlt).toNat = x := by rw [hb, hx]
        clear hb hx
        by_cases d0 : x < 48
        · have d0' : (x : Int) < 48 := by omega
          go_wp2
          refine bodyPost_ret (v := .tuple #[.int .i64 0, .bool false]) (by simp [results, Tryz.results53, go_sem]) rfl ⟨.inr ⟨fun n hn h => ?_, rfl⟩, rfl⟩
          have := (NUM.out n hn h).1.2.1 b MB.out
          rw [← HX.out] at this; omega
        by_cases d9 : 57 < x
        · have d9' : (57 : Int) < x := by omega
          have d0' : (48 : Int) ≤ x := by omega
          go_wp2
          refine bodyPost_ret (v := .tuple #[.int .i64 0, .bool false]) (by simp [results, Tryz.results53, go_sem]) rfl ⟨.inr ⟨fun n hn h => ?_, rfl⟩, rfl⟩
          have := (NUM.out n hn h).1.2.1 b MB.out
          rw [← HX.out] at this; omega
        have d0' : (48 : Int) ≤ x := by omega
        have d9' : (x : Int) ≤ 57 := by omega
        have NXT : Hid (m * 10 + (x - 48) = (t.data.toList.take (k + 1)).foldl digStep 0) := by
          show _ = _
          rw [take_at HG.out, List.foldl_append, ← HM.out, HX.out]; rfl
        have NXD : Hid (∀ c ∈ t.data.toList.take (k + 1), 48 ≤ c.toNat ∧ c.toNat ≤ 57) := by
          intro c hc
          rw [take_at HG.out] at hc
          rcases List.mem_append.1 hc with hc | hc
          · exact HD.out c hc
          · simp at hc; subst hc; have := HX.out; omega
        go_wp2
        go_round
        case rel => exact ⟨k + 1, m * 10 + (x - 48), by omega, by go_num, by congr 1; omega, NXT.out, NXD.out⟩
        case measure => simp [intOf]; omega
      · have hke : k = t.size := by omega
        have FIN : Hid (ReadsNum Small s.data.toList (.returned (.tuple #[.int .i64 (-(m : Int)), .bool true]))) := by
          have hm := HM.out
          have hd := HD.out
          rw [hke, ← size_list, List.take_length] at hm hd
          rw [hm]
          have hg := GD.out hd
          exact .inl (GOOD.out (by rw [size_list]; omega) hg)
        go_wp2
        refine bodyPost_ret (v := .tuple #[.int .i64 (-(m : Int)), .bool true]) (by simp [results, Tryz.results53, go_sem]) rfl ⟨FIN.out, rfl⟩
  · have NUM : Hid (∀ n, Small n → Lib.itoa n = s.data.toList → Canon s.data.toList ∧ s.data.toList.length ≤ 17 ∧ s.data.toList.head? ≠ some 45) := by
      intro n hn h
      rcases num_of n hn with ⟨r, h1, h2, h3, h4⟩ | ⟨h1, h2, h3⟩
      · rw [h] at h1
        have := HH.out
        rw [h1] at this
        injection this with this
        rw [← this] at h45
        exact absurd rfl h45
      · rw [h] at h1 h2 h3
        exact ⟨h2, h3, h1⟩
    have GOOD : Hid (s.data.toList.length ≤ 17 → Canon s.data.toList → ∃ n, Small n ∧ Lib.itoa n = s.data.toList ∧ Ending.returned (.tuple #[.int .i64 ((s.data.toList.foldl digStep 0 : Nat) : Int), .bool true]) = .returned (.tuple #[.int .i64 n, .bool true])) := by
      intro hl h
      have := num_good_pos _ h hl
      exact ⟨_, this.2, this.1, rfl⟩
    go_enter Tryz.func53, Tryz.ntmps53
    by_cases z0 : s.size = 0
    · go_wp2
      refine bodyPost_ret (v := .tuple #[.int .i64 0, .bool false]) (by simp [results, Tryz.results53, go_sem]) rfl ⟨.inr ⟨fun n hn h => ?_, rfl⟩, rfl⟩
      exact (NUM.out n hn h).1.1 (List.eq_nil_of_length_eq_zero (by rw [size_list]; exact z0))
    by_cases z17 : 17 < s.size
    · have z17' : (17 : Int) < s.size := by omega
      go_wp2
      refine bodyPost_ret (v := .tuple #[.int .i64 0, .bool false]) (by simp [results, Tryz.results53, go_sem]) rfl ⟨.inr ⟨fun n hn h => ?_, rfl⟩, rfl⟩
      have := (NUM.out n hn h).2.1
      rw [size_list] at this
      omega
    have z17' : (s.size : Int) ≤ 17 := by omega
    have zp : 0 < s.size := by omega
    have hb0 : (((s.size : Nat) : Int) == 0) = false := by rw [beq_eq_false_iff_ne]; omega
    have hb17 : decide ((17 : Int) < s.size) = false := by rw [decide_eq_false_iff_not]; omega
    have H0 : Hid (s.data.toList.head? = some y) := HH.out
    by_cases c48 : y.toNat = 48
    · have C48 : Hid (y = 48) := byte_ext c48
      by_cases z1 : 1 < s.size
      · have z1' : (1 : Int) < s.size := by omega
        have hb1 : decide ((1 : Int) < s.size) = true := by rw [decide_eq_true_iff]; omega
        go_wp2
        refine bodyPost_ret (v := .tuple #[.int .i64 0, .bool false]) (by simp [results, Tryz.results53, go_sem]) rfl ⟨.inr ⟨fun n hn h => ?_, rfl⟩, rfl⟩
        have := (NUM.out n hn h).1.2.2 (by rw [H0.out, C48.out])
        rw [size_list] at this
        omega
      have z1' : (s.size : Int) ≤ 1 := by omega
      have hb1 : decide ((1 : Int) < s.size) = false := by rw [decide_eq_false_iff_not]; omega
      have GD : Hid ((∀ c ∈ s.data.toList, 48 ≤ c.toNat ∧ c.toNat ≤ 57) → Canon s.data.toList) := by
        intro hd
        exact ⟨fun e => by have := size_list s; rw [e] at this; simp at this; omega, hd, fun _ => by rw [size_list]; omega⟩
      go_wp2
      go_loop [5, 6] (fun n i => ∃ (k m : Nat), k ≤ s.size ∧ i = .int .i64 k ∧ n = .int .i64 m ∧ Hid (m = (s.data.toList.take k).foldl digStep 0) ∧ Hid (∀ c ∈ s.data.toList.take k, 48 ≤ c.toNat ∧ c.toNat ≤ 57)) (fun _ i => s.size - (intOf i).toNat)
      case atStart => exact ⟨0, 0, Nat.zero_le _, rfl, rfl, rfl, by show ∀ c ∈ _, _; simp⟩
      case round =>
        obtain ⟨k, m, hk, rfl, rfl, HM, HD⟩ := hrel
        have mb : m < 100000000000000000 := by
          have h1 := fold_lt _ HD.out 0
          rw [← HM.out, Nat.zero_add, Nat.one_mul, List.length_take] at h1
          have h2 : 10 ^ (min k s.data.toList.length) ≤ 10 ^ 17 := Nat.pow_le_pow_right (by decide) (by omega)
          exact Nat.lt_of_lt_of_le h1 h2
        by_cases hlt : k < s.size
        · obtain ⟨b, hb, hg⟩ := byte_at s k hlt
          have HG : Hid (s.data.toList[k]? = some b) := hg
          clear hg
          have MB : Hid (b ∈ s.data.toList) := List.mem_of_getElem? HG.out
          obtain ⟨x, hx⟩ : ∃ x, x = b.toNat := ⟨_, rfl⟩
          have hx2 : x < 256 := by rw [hx]; exact UInt8.toNat_lt b
          have HX : Hid (x = b.toNat) := hx
          have hbx : (s[k]'hlt).toNat = x := by rw [hb, hx]
          clear hb hx
          by_cases d0 : x < 48
          · have d0' : (x : Int) < 48 := by omega
            go_wp2
            refine bodyPost_ret (v := .tuple #[.int .i64 0, .bool false]) (by simp [results, Tryz.results53, go_sem]) rfl ⟨.inr ⟨fun n hn h => ?_, rfl⟩, rfl⟩
            have := (NUM.out n hn h).1.2.1 b MB.out
            rw [← HX.out] at this; omega
          by_cases d9 : 57 < x
          · have d9' : (57 : Int) < x := by omega
            have d0' : (48 : Int) ≤ x := by omega
            go_wp2
            refine bodyPost_ret (v := .tuple #[.int .i64 0, .bool false]) (by simp [results, Tryz.results53, go_sem]) rfl ⟨.inr ⟨fun n hn h => ?_, rfl⟩, rfl⟩
            have := (NUM.out n hn h).1.2.1 b MB.out
            rw [← HX.out] at this; omega
          have d0' : (48 : Int) ≤ x := by omega
          have d9' : (x : Int) ≤ 57 := by omega
          have NXT : Hid (m * 10 + (x - 48) = (s.data.toList.take (k + 1)).foldl digStep 0) := by
            show _ = _
            rw [take_at HG.out, List.foldl_append, ← HM.out, HX.out]; rfl
          have NXD : Hid (∀ c ∈ s.data.toList.take (k + 1), 48 ≤ c.toNat ∧ c.toNat ≤ 57) := by
            intro c hc
            rw [take_at HG.out] at hc
            rcases List.mem_append.1 hc with hc | hc
            · exact HD.out c hc
            · simp at hc; subst hc; have := HX.out; omega
          go_wp2
          go_round
          case rel => exact ⟨k + 1, m * 10 + (x - 48), by omega, by go_num, by congr 1; omega, NXT.out, NXD.out⟩
          case measure => simp [intOf]; omega
        · have hke : k = s.size := by omega
          have FIN : Hid (ReadsNum Small s.data.toList (.returned (.tuple #[.int .i64 ((m : Int)), .bool true]))) := by
            have hm := HM.out
            have hd := HD.out
            rw [hke, ← size_list, List.take_length] at hm hd
            rw [hm]
            have hg := GD.out hd
            exact .inl (GOOD.out (by rw [size_list]; omega) hg)
          go_wp2
          refine bodyPost_ret (v := .tuple #[.int .i64 ((m : Int)), .bool true]) (by simp [results, Tryz.results53, go_sem]) rfl ⟨FIN.out, rfl⟩
    have hb48 : (((y.toNat : Nat) : Int) == 48) = false := by rw [beq_eq_false_iff_ne]; omega
    have GD : Hid ((∀ c ∈ s.data.toList, 48 ≤ c.toNat ∧ c.toNat ≤ 57) → Canon s.data.toList) := by
      intro hd
      exact ⟨fun e => by have := size_list s; rw [e] at this; simp at this; omega, hd, fun e => by rw [H0.out] at e; injection e with e; rw [e] at c48; exact absurd rfl c48⟩
    go_wp2
    go_loop [5, 6] (fun n i => ∃ (k m : Nat), k ≤ s.size ∧ i = .int .i64 k ∧ n = .int .i64 m ∧ Hid (m = (s.data.toList.take k).foldl digStep 0) ∧ Hid (∀ c ∈ s.data.toList.take k, 48 ≤ c.toNat ∧ c.toNat ≤ 57)) (fun _ i => s.size - (intOf i).toNat)
    case atStart => exact ⟨0, 0, Nat.zero_le _, rfl, rfl, rfl, by show ∀ c ∈ _, _; simp⟩
    case round =>
      obtain ⟨k, m, hk, rfl, rfl, HM, HD⟩ := hrel
      have mb : m < 100000000000000000 := by
        have h1 := fold_lt _ HD.out 0
        rw [← HM.out, Nat.zero_add, Nat.one_mul, List.length_take] at h1
        have h2 : 10 ^ (min k s.data.toList.length) ≤ 10 ^ 17 := Nat.pow_le_pow_right (by decide) (by omega)
        exact Nat.lt_of_lt_of_le h1 h2
      by_cases hlt : k < s.size
      · obtain ⟨b, hb, hg⟩ := byte_at s k hlt
        have HG : Hid (s.data.toList[k]? = some b) := hg
        clear hg
        have MB : Hid (b ∈ s.data.toList) := List.mem_of_getElem? HG.out
        obtain ⟨x, hx⟩ : ∃ x, x = b.toNat := ⟨_, rfl⟩
        have hx2 : x < 256 := by rw [hx]; exact UInt8.toNat_lt b
        have HX : Hid (x = b.toNat) := hx
        have hbx : (s[k]'hlt).toNat = x := by rw [hb, hx]
        clear hb hx
        by_cases d0 : x < 48
        · have d0' : (x : Int) < 48 := by omega
          go_wp2
          refine bodyPost_ret (v := .tuple #[.int .i64 0, .bool false]) (by simp [results, Tryz.results53, go_sem]) rfl ⟨.inr ⟨fun n hn h => ?_, rfl⟩, rfl⟩
          have := (NUM.out n hn h).1.2.1 b MB.out
          rw [← HX.out] at this; omega
        by_cases d9 : 57 < x
        · have d9' : (57 : Int) < x := by omega
          have d0' : (48 : Int) ≤ x := by omega
          go_wp2
          refine bodyPost_ret (v := .tuple #[.int .i64 0, .bool false]) (by simp [results, Tryz.results53, go_sem]) rfl ⟨.inr ⟨fun n hn h => ?_, rfl⟩, rfl⟩
          have := (NUM.out n hn h).1.2.1 b MB.out
          rw [← HX.out] at this; omega
        have d0' : (48 : Int) ≤ x := by omega
        have d9' : (x : Int) ≤ 57 := by omega
        have NXT : Hid (m * 10 + (x - 48) = (s.data.toList.take (k + 1)).foldl digStep 0) := by
          show _ = _
          rw [take_at HG.out, List.foldl_append, ← HM.out, HX.out]; rfl
        have NXD : Hid (∀ c ∈ s.data.toList.take (k + 1), 48 ≤ c.toNat ∧ c.toNat ≤ 57) := by
          intro c hc
          rw [take_at HG.out] at hc
          rcases List.mem_append.1 hc with hc | hc
          · exact HD.out c hc
          · simp at hc; subst hc; have := HX.out; omega
        go_wp2
        go_round
        case rel => exact ⟨_, _, _, _, ⟨k + 1, by omega, by go_num, m * 10 + (x - 48), by congr 1; omega, NXT.out, NXD.out⟩, rfl, rfl, rfl, rfl⟩
        case measure => simp [intOf]; omega
      · have hke : k = s.size := by omega
        have FIN : Hid (ReadsNum Small s.data.toList (.returned (.tuple #[.int .i64 ((m : Int)), .bool true]))) := by
          have hm := HM.out
          have hd := HD.out
          rw [hke, ← size_list, List.take_length] at hm hd
          rw [hm]
          have hg := GD.out hd
          exact .inl (GOOD.out (by rw [size_list]; omega) hg)
        go_wp2
        refine bodyPost_ret (v := .tuple #[.int .i64 ((m : Int)), .bool true]) (by simp [results, Tryz.results53, go_sem]) rfl ⟨FIN.out, rfl⟩
end Go.Proofs.YtbcnmmofccackaaGreatDoor.Own
