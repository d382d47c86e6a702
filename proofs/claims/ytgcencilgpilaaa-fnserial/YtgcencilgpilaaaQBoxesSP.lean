/-
  Own text: what spec.l2Boxes and spec.ProgPuts do.
-/
import Derived.Test.YtgcencilgpilaaaPk4
import Derived.OwnWalk
namespace Go.Proofs.Ytgcencilgpilaaa.Own
open Go.RowKit
set_option linter.unusedVariables false

theorem infoIntSP : (Try.prog.info? 3).map (fun i => (i.zero, i.size, i.bytes)) = some (some (.int .i64 0), 1, 8) := by kernel_rfl
theorem one_intP (w : World) (v : Value) : ∀ j u, [v][j]? = some u → (w.alloc (.cells #[v] 3)).cell? ((⟨w.heap.size, 0, none⟩ : Addr).add j) = some u := by
  intro j u hj
  match j, hj with
  | 0, hj => simp at hj; subst hj; simp [Addr.add]

set_option maxRecDepth 100000 in
set_option maxHeartbeats 2000000 in
theorem l2BoxesP (a : Option Addr) (c : Nat) (xs : List Q4) (w : World) (h : Sl4 w a xs) (hn : xs.length ≤ 2 ^ 40) :
    Calls Try.prog 130 #[.slice a xs.length c, .int .i64 2] w fun e w' => (∃ v, e = .returned v ∧ w'.ownsRow w.heap.size 3 1 v (boxesTo putsQ xs 4).length ((boxesTo putsQ xs 4).map (Value.int .i64))) ∧ Below w.heap.size w w' := by
  obtain ⟨i0, hi, hz0, hz1, hz2⟩ := info_parts infoIntSP
  have HI : Hid (Try.prog.info? 3 = some i0 ∧ i0.zero = some (.int .i64 0) ∧ i0.size = 1 ∧ i0.bytes = 8) := ⟨hi, hz0, hz1, hz2⟩
  clear hi hz0 hz1 hz2
  have H1 : Hid (Sl4 w a xs) := h
  clear h
  go_enter Try.func130, Try.ntmps130
  go_wp2
  go_loopw [5, 6] (fun o i wr => ∃ k : Nat, k ≤ 4 ∧ i = .int .i64 k ∧ Hid (wr.ownsRow w.heap.size 3 1 o (boxesTo putsQ xs k).length ((boxesTo putsQ xs k).map (Value.int .i64))) ∧ Hid (Below w.heap.size w wr)) (fun _ i _ => 4 - (intOf i).toNat)
  case atStart =>
    refine ⟨0, Nat.zero_le _, rfl, ?_, (Below.refl _ _).alloc (Nat.le_refl _) _⟩
    exact ⟨rfl, .inr ⟨w.heap.size, 0, #[], rfl, Nat.le_refl _, heap_new _ _, Nat.le_refl _, by unfold maxLen; omega, rfl, rfl⟩⟩
  case round =>
    obtain ⟨k, hk, rfl, HO, HB⟩ := hrel
    by_cases hlt : k < 4
    · go_wp2
      go_loop [7, 8] (fun has i => ∃ (j : Nat) (r : Bool), j ≤ xs.length ∧ i = .int .i64 j ∧ has = .bool r ∧ Hid ((xs.take j).any (fun p => putsQ p (k : Int)) = r)) (fun _ i => xs.length - (intOf i).toNat)
      case atStart => exact ⟨0, false, Nat.zero_le _, rfl, rfl, rfl⟩
      case round =>
        obtain ⟨j, r, hj, rfl, rfl, HA⟩ := hrel
        by_cases hlj : j < xs.length
        · rcases H1.out with h | ⟨b1, o1, rfl, h1⟩
          · subst h; simp at hlj
          obtain ⟨p, hp⟩ : ∃ p, p = xs.getD j q0 := ⟨_, rfl⟩
          obtain ⟨ca, cb, cc, cd⟩ := h1.2 j hlj
          rw [← HB.out.cell h1.1, ← hp] at ca cb cc cd
          have N : Hid ((xs.take (j + 1)).any (fun p => putsQ p (k : Int)) = (r || putsQ p (k : Int))) := by
            show _ = _
            rw [any_take_succ q0 hlj, HA.out, ← hp]
          clear hp h1
          obtain ⟨p1, p2, p3, p4⟩ := p
          have E : Hid (putsQ (p1, p2, p3, p4) (k : Int) = (p1 == 2 && p2 == (k : Int))) := rfl
          cases r with
          | true =>
            have N' : Hid ((xs.take (j + 1)).any (fun p => putsQ p (k : Int)) = true) := by show _ = _; rw [N.out]; rfl
            clear N E
            go_wp2
            go_round
            case rel => exact ⟨j + 1, true, by omega, by go_num, rfl, N'.out⟩
            case measure => simp [intOf]; omega
          | false =>
            cases h1 : (p1 == 2) with
            | false =>
              have N' : Hid ((xs.take (j + 1)).any (fun p => putsQ p (k : Int)) = false) := by show _ = _; rw [N.out, E.out, h1]; rfl
              clear N E
              go_wp2
              go_round
              case rel => exact ⟨j + 1, false, by omega, by go_num, rfl, N'.out⟩
              case measure => simp [intOf]; omega
            | true =>
              cases h2 : (p2 == (k : Int)) with
              | false =>
                have N' : Hid ((xs.take (j + 1)).any (fun p => putsQ p (k : Int)) = false) := by show _ = _; rw [N.out, E.out, h1, h2]; rfl
                clear N E
                go_wp2
                go_round
                case rel => exact ⟨j + 1, false, by omega, by go_num, rfl, N'.out⟩
                case measure => simp [intOf]; omega
              | true =>
                have N' : Hid ((xs.take (j + 1)).any (fun p => putsQ p (k : Int)) = true) := by show _ = _; rw [N.out, E.out, h1, h2]; rfl
                clear N E
                go_wp2
                go_round
                case rel => exact ⟨j + 1, true, by omega, by go_num, rfl, N'.out⟩
                case measure => simp [intOf]; omega
        · have hje : j = xs.length := by omega
          have HA' : Hid (xs.any (fun p => putsQ p (k : Int)) = r) := by
            have := HA.out
            rw [hje, List.take_length] at this
            exact this
          have hbl := boxesTo_len putsQ xs k
          clear HA
          cases r with
          | false =>
            have NX : Hid (boxesTo putsQ xs (k + 1) = boxesTo putsQ xs k) := by show _ = _; simp [boxesTo, HA'.out]
            go_wp2
            go_roundw
            case rel => exact ⟨k + 1, by omega, by go_num, by rw [NX.out]; exact HO.out, HB.out⟩
            case measure => simp [intOf]; omega
          | true =>
            have NX : Hid (boxesTo putsQ xs (k + 1) = boxesTo putsQ xs k ++ [(k : Int)]) := by show _ = _; simp [boxesTo, HA'.out]
            go_wp2_with (at_builtin; refine wpList_append_own _ rfl _ _ 48 rfl w.heap.size 3 i0 (.int .i64 0) 1 8 Try.underlying48 HI.out.1 HI.out.2.1 HI.out.2.2.1 HI.out.2.2.2 rfl (by decide) _ _ _ rfl (HO.out.alloc _) ⟨wr.heap.size, 0, none⟩ 1 1 [.int .i64 k] rfl rfl (one_intP _ _) (by intro u hu; simp at hu; subst hu; rfl) (by unfold maxLen; omega) (by omega) (by have := HB.out.size; rw [size_new]; omega) ?_)
            intro v' w2 hown' hgrow _
            have OW : Hid (w2.ownsRow w.heap.size 3 1 v' (boxesTo putsQ xs (k + 1)).length ((boxesTo putsQ xs (k + 1)).map (Value.int .i64))) := by
              show World.ownsRow _ _ _ _ _ _ _
              rw [NX.out, List.length_append, List.map_append, List.length_singleton]
              exact hown'
            have BW : Hid (Below w.heap.size w w2) := (HB.out.alloc HB.out.size _).grown hgrow (by have := HB.out.size; rw [size_new]; omega) (fun k hk => (HO.out.lt k hk).1)
            clear hown' hgrow
            go_wp2
            go_roundw
            case rel => exact ⟨k + 1, by omega, by go_num, OW.out, BW.out⟩
            case measure => simp [intOf]; omega
    · obtain rfl : k = 4 := by omega
      go_wp2
      go_ret
      exact ⟨⟨_, rfl, HO.out⟩, HB.out⟩

set_option maxHeartbeats 1000000 in
theorem specProgPuts (a : Option Addr) (c : Nat) (xs : List Q4) (w : World) (h : Sl4 w a xs) (hn : xs.length ≤ 2 ^ 40) :
    Calls Try.prog 90 #[.slice a xs.length c] w fun e w' => (∃ v, e = .returned v ∧ w'.ownsRow w.heap.size 3 1 v (boxesTo putsQ xs 4).length ((boxesTo putsQ xs 4).map (Value.int .i64))) ∧ Below w.heap.size w w' := by
  go_enter Try.func90, Try.ntmps90
  go_wp2_with fail
  refine (l2BoxesP a c xs w h hn).mono ?_
  rintro e w1 ⟨⟨v, rfl, hown⟩, hb1⟩
  have B1 : Hid (Below w.heap.size w w1) := hb1
  have O1 : Hid (w1.ownsRow w.heap.size 3 1 v (boxesTo putsQ xs 4).length ((boxesTo putsQ xs 4).map (Value.int .i64))) := hown
  clear hown hb1
  go_wp2_with fail
  go_ret
  exact ⟨⟨v, rfl, O1.out⟩, B1.out⟩
end Go.Proofs.Ytgcencilgpilaaa.Own
