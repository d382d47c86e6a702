/-
  Own text: what spec.BoxText does.
-/
import Derived.Test.YtipbabkbmiaalaaDoorText
import Derived.Lib.QuietBelow
import Derived.BigQuiet
import Derived.Deep.QuietTactic
namespace Go.Proofs.YtipbabkbmiaalaaDoor.Own
open Go.RowKit Go.Sort
set_option linter.unusedVariables false
set_option linter.unusedSimpArgs false

set_option maxRecDepth 100000 in
set_option maxHeartbeats 1000000 in
theorem specText (a : Option Addr) (c : Nat) (xs : List (Int × Int)) (w : World) (h : Sl w a xs) (hn : xs.length ≤ 2 ^ 30) (hw : Wf xs) :
    Calls Tryd.prog 10 #[.slice a xs.length c] w fun e w' => e = .returned (.string (str (textTo xs xs.length))) ∧ Below w.heap.size w w' := by
  have H1 : Hid (Sl w a xs) := h
  have HW : Hid (Wf xs) := hw
  clear h hw
  go_enter Tryd.func10, Tryd.ntmps10
  go_wp2
  go_loopw [3, 4] (fun out i wr => ∃ (k : Nat) (s : ByteArray), k ≤ xs.length ∧ i = .int .i64 k ∧ out = .string s ∧ Hid (s = str (textTo xs k)) ∧ Below w.heap.size w wr) (fun _ i _ => xs.length - (intOf i).toNat)
  case atStart => exact ⟨0, ⟨#[]⟩, Nat.zero_le _, rfl, rfl, rfl, Below.refl _ _⟩
  case round =>
    obtain ⟨k, s, hk, rfl, rfl, hS, hB⟩ := hrel
    have HB : Hid (Below w.heap.size w wr) := hB
    have hsl : s.size ≤ 44 * k := by rw [hS.out, str_size]; exact textTo_len xs HW.out k hk
    clear hB
    by_cases hlt : k < xs.length
    · rcases H1.out with h | ⟨b1, o1, rfl, h1⟩
      · subst h; simp at hlt
      have H1' : Hid (BoxAt w b1 o1 xs) := h1
      clear h1
      obtain ⟨p, hp⟩ : ∃ p, p = xs.getD k (0, 0) := ⟨_, rfl⟩
      have hf : Hid (Fits p.1 ∧ Fits p.2) := by rw [hp]; exact HW.out k hlt
      have HK : Hid (∀ W : World, Below wr.heap.size wr W → W.cell? ⟨b1, o1 + k * 2, none⟩ = some (.int .i64 p.1) ∧ W.cell? ⟨b1, o1 + k * 2 + 1, none⟩ = some (.int .i64 p.2)) := by
        intro W hW
        have hb : Below w.heap.size w W := HB.out.trans (hW.mono HB.out.size)
        rw [hb.cell (p := ⟨b1, o1 + k * 2, none⟩) H1'.out.1, hb.cell (p := ⟨b1, o1 + k * 2 + 1, none⟩) H1'.out.1, hp]
        exact H1'.out.2 k hlt
      have HP : Hid (p = xs.getD k (0, 0)) := hp
      clear hp
      obtain ⟨p1, p2⟩ := p
      obtain ⟨s1, e1⟩ : ∃ s, s = str (Lib.itoa p2) := ⟨_, rfl⟩
      obtain ⟨s2, e2⟩ : ∃ s, s = str (Lib.itoa p1) := ⟨_, rfl⟩
      have z1 : s1.size ≤ 21 := by rw [e1, str_size]; exact itoa_len p2 hf.out.2
      have z2 : s2.size ≤ 21 := by rw [e2, str_size]; exact itoa_len p1 hf.out.1
      have E1 : Hid (s1 = str (Lib.itoa p2)) := e1
      have E2 : Hid (s2 = str (Lib.itoa p1)) := e2
      clear e1 e2
      have C1 : Hid (∀ W : World, Calls Tryd.prog 34 #[.int .i64 p2] W fun e w' => e = .returned (.string s1) ∧ Below W.heap.size W w') := by
        intro W; rw [E1.out]; exact l15Dec p2 W hf.out.2.1 hf.out.2.2
      have C2 : Hid (∀ W : World, Calls Tryd.prog 34 #[.int .i64 p1] W fun e w' => e = .returned (.string s2) ∧ Below W.heap.size W w') := by
        intro W; rw [E2.out]; exact l15Dec p1 W hf.out.1.1 hf.out.1.2
      have Q1 : Hid (∀ d os, Calls Tryd.prog 34 #[.int .i64 p2] (grow (redrawn wr d) os) fun e w'' => e = .returned (.string s1) ∧ ∃ p : Regrown, w'' = grow (redrawn wr p.d) p.os) := fun d os => Calls.regrown_of (C1.out _)
      have Q2 : Hid (∀ d os, Calls Tryd.prog 34 #[.int .i64 p1] (grow (redrawn wr d) os) fun e w'' => e = .returned (.string s2) ∧ ∃ p : Regrown, w'' = grow (redrawn wr p.d) p.os) := fun d os => Calls.regrown_of (C2.out _)
      obtain ⟨k0, k1⟩ := HK.out wr (Below.refl _ _)
      have m0 := cell_regrown k0
      have m1 := cell_regrown k1
      clear k0 k1
      have fin : ∀ t : ByteArray, t.data.toList = (if k = 0 then s.data.toList else s.data.toList ++ [32]) ++ (s1.data.toList ++ (47 :: s2.data.toList)) → t = str (textTo xs (k + 1)) := by
        intro t ht
        apply str_eq
        rw [ht, hS.out, E1.out, E2.out, str_list, str_list, str_list]
        simp only [textTo, boxText1, ← HP.out]
        split <;> simp
      have FIN : Hid (∀ t : ByteArray, t.data.toList = (if k = 0 then s.data.toList else s.data.toList ++ [32]) ++ (s1.data.toList ++ (47 :: s2.data.toList)) → t = str (textTo xs (k + 1))) := fin
      clear fin
      by_cases h0 : k = 0
      · have H0 : Hid (k = 0) := h0
        have hz : (k : Int) ≤ 0 := by omega
        have n1 : ¬ 9223372036854775807 < s.size + s1.size := by omega
        have n2 : ¬ 9223372036854775807 < s.size + s1.size + 1 := by omega
        have n3 : ¬ 9223372036854775807 < s.size + s1.size + 1 + s2.size := by omega
        clear h0
        go_wp2
        refine wp_region_quiet_below (by kernel_rfl) (by kernel_rfl) ?_
        repeat (quiet_step (first | (go_at_call_of 34 (Value.int IntKind.i64 p2); exact Q1.out _ _) | (go_at_call_of 34 (Value.int IntKind.i64 p1); exact Q2.out _ _)))
        refine wpQuiet_nil ?_
        intro _ hw'
        obtain ⟨⟨dq, osq⟩, hw''⟩ := hw'
        have hx : Hid (Below wr.heap.size wr (grow (redrawn wr dq) osq)) := below_regrown wr dq osq
        rw [← hw''] at hx
        clear hw''
        go_wp2
        go_roundw
        case rel =>
          refine ⟨k + 1, _, by omega, by go_num, rfl, FIN.out _ ?_, HB.out.trans (hx.out.mono HB.out.size)⟩
          simp only [list_append]
          rw [if_pos H0.out]
          simp
        case measure => simp [intOf]; omega
      · have H0 : Hid (¬ k = 0) := h0
        have hz : (0 : Int) < (k : Int) := by omega
        have n0 : ¬ 9223372036854775807 < s.size + 1 := by omega
        have n1 : ¬ 9223372036854775807 < s.size + 1 + s1.size := by omega
        have n2 : ¬ 9223372036854775807 < s.size + 1 + s1.size + 1 := by omega
        have n3 : ¬ 9223372036854775807 < s.size + 1 + s1.size + 1 + s2.size := by omega
        clear h0
        go_wp2
        refine wp_region_quiet_below (by kernel_rfl) (by kernel_rfl) ?_
        repeat (quiet_step (first | (go_at_call_of 34 (Value.int IntKind.i64 p2); exact Q1.out _ _) | (go_at_call_of 34 (Value.int IntKind.i64 p1); exact Q2.out _ _)))
        refine wpQuiet_nil ?_
        intro _ hw'
        obtain ⟨⟨dq, osq⟩, hw''⟩ := hw'
        have hx : Hid (Below wr.heap.size wr (grow (redrawn wr dq) osq)) := below_regrown wr dq osq
        rw [← hw''] at hx
        clear hw''
        go_wp2
        go_roundw
        case rel =>
          refine ⟨k + 1, _, by omega, by go_num, rfl, FIN.out _ ?_, HB.out.trans (hx.out.mono HB.out.size)⟩
          simp only [list_append]
          rw [if_neg H0.out]
          simp
        case measure => simp [intOf]; omega
    · go_wp2
      go_ret
      have : k = xs.length := by omega
      subst this
      exact ⟨ret_str hS.out, HB.out⟩
end Go.Proofs.YtipbabkbmiaalaaDoor.Own
