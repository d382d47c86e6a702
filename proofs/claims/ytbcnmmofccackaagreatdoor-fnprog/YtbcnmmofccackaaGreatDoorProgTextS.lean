/-
  Own text: what spec.l2Text (at every kind) and spec.ProgText do.
-/
import Derived.Test.YtbcnmmofccackaaGreatDoorTextS2
import Derived.Test.YtbcnmmofccackaaGreatDoorTextS3
namespace Go.Proofs.YtbcnmmofccackaaGreatDoor.Own
open Go.RowKit
set_option linter.unusedVariables false
set_option linter.unusedSimpArgs false

theorem l2TextC (p : Q4) (w : World) (hf : FitsQ p) :
    Calls Tryz.prog 25 #[.agg #[.int .i64 p.1, .int .i64 p.2.1, .int .i64 p.2.2.1, .int .i64 p.2.2.2]] w fun e w' => e = .returned (.string (str (insText p))) ∧ Below w.heap.size w w' := by
  obtain ⟨k, a, b, n⟩ := p
  obtain ⟨_, ha, hb, hn⟩ := hf
  by_cases h1 : k = 1
  · subst h1; rw [insText_1]; exact l2Text1 a b n ha hb w
  by_cases h2 : k = 2
  · subst h2; rw [insText_2]; exact l2Text2 a b n ha hb w
  by_cases h3 : k = 3
  · subst h3; rw [insText_3]; exact l2Text3 a b n ha hb hn w
  by_cases h4 : k = 4
  · subst h4; rw [insText_4]; exact l2Text4 a b n ha hb w
  by_cases h5 : k = 5
  · subst h5; rw [insText_5]; exact l2Text5 a b n ha hb w
  by_cases h6 : k = 6
  · subst h6; rw [insText_6]; exact l2Text6 a b n ha hb hn w
  by_cases h7 : k = 7
  · subst h7; rw [insText_7]; exact l2Text7 a b n w
  rw [insText_no a b n h1 h2 h3 h4 h5 h6 h7]
  exact l2TextNo k a b n w (by simpa using h1) (by simpa using h2) (by simpa using h3) (by simpa using h4) (by simpa using h5) (by simpa using h6) (by simpa using h7)

set_option maxRecDepth 100000 in
set_option maxHeartbeats 1000000 in
theorem specProgText (a : Option Addr) (c : Nat) (xs : List Q4) (w : World) (h : Sl4 w a xs) (hn : xs.length ≤ 2 ^ 30) (hw : Wf4 xs) :
    Calls Tryz.prog 7 #[.slice a xs.length c] w fun e w' => e = .returned (.string (str (progTo xs xs.length))) ∧ Below w.heap.size w w' := by
  have H1 : Hid (Sl4 w a xs) := h
  have HW : Hid (Wf4 xs) := hw
  clear h hw
  go_enter Tryz.func7, Tryz.ntmps7
  go_wp2
  go_loopw [3, 4] (fun out i wr => ∃ (k : Nat) (s : ByteArray), k ≤ xs.length ∧ i = .int .i64 k ∧ out = .string s ∧ Hid (s = str (progTo xs k)) ∧ Hid (Below w.heap.size w wr)) (fun _ i _ => xs.length - (intOf i).toNat)
  case atStart => exact ⟨0, ⟨#[]⟩, Nat.zero_le _, rfl, rfl, rfl, Below.refl _ _⟩
  case round =>
    obtain ⟨k, s, hk, rfl, rfl, hS, HB⟩ := hrel
    have hsl : s.size ≤ 71 * k := by rw [hS.out, str_size]; exact progTo_len xs HW.out k hk
    by_cases hlt : k < xs.length
    · rcases H1.out with h | ⟨b1, o1, rfl, h1⟩
      · subst h; simp at hlt
      have H1' : Hid (At4 w b1 o1 xs) := h1
      clear h1
      obtain ⟨p, hp⟩ : ∃ p, p = xs.getD k q0 := ⟨_, rfl⟩
      have hf : Hid (FitsQ p) := by rw [hp]; exact HW.out k hlt
      obtain ⟨ca, cb, cc, cd⟩ := H1'.out.2 k hlt
      rw [← HB.out.cell H1'.out.1, ← hp] at ca cb cc cd
      have HP : Hid (p = xs.getD k q0) := hp
      clear hp
      obtain ⟨s1, e1⟩ : ∃ t, t = str (insText p) := ⟨_, rfl⟩
      have z1 : s1.size ≤ 70 := by rw [e1, str_size]; exact insText_len _ hf.out
      have E1 : Hid (s1 = str (insText p)) := e1
      have CP := fun W => l2TextC p W hf.out
      rw [← e1] at CP
      clear e1
      obtain ⟨p1, p2, p3, p4⟩ := p
      have C : Hid (∀ W, Calls Tryz.prog 25 #[.agg #[.int .i64 p1, .int .i64 p2, .int .i64 p3, .int .i64 p4]] W fun e w' => e = .returned (.string s1) ∧ Below W.heap.size W w') := CP
      clear CP
      by_cases h0 : k = 0
      · have H0 : Hid (k = 0) := h0
        have hz : (k : Int) ≤ 0 := by omega
        clear h0
        go_wp2_with fail
        refine (C.out wr).mono ?_
        rintro e w1 ⟨rfl, hb1⟩
        have B1 : Hid (Below w.heap.size w w1) := HB.out.trans (hb1.mono HB.out.size)
        clear hb1
        go_wp2
        go_roundw
        case rel =>
          refine ⟨k + 1, _, by omega, by go_num, rfl, ?_, B1.out⟩
          show _ = _
          rw [hS.out, E1.out, str_append, progTo_first xs k H0.out, HP.out]
        case measure => simp [intOf]; omega
      · have H0 : Hid (k ≠ 0) := h0
        have hz : (0 : Int) < (k : Int) := by omega
        clear h0
        go_wp2_with fail
        refine (C.out wr).mono ?_
        rintro e w1 ⟨rfl, hb1⟩
        have B1 : Hid (Below w.heap.size w w1) := HB.out.trans (hb1.mono HB.out.size)
        clear hb1
        go_wp2
        go_roundw
        case rel =>
          refine ⟨k + 1, _, by omega, by go_num, rfl, ?_, B1.out⟩
          show _ = _
          apply str_eq
          simp only [list_append]
          rw [hS.out, E1.out, progTo_next xs k H0.out, HP.out, str_list, str_list]
        case measure => simp [intOf]; omega
    · go_wp2
      go_ret
      have : k = xs.length := by omega
      subst this
      exact ⟨ret_str hS.out, HB.out⟩
end Go.Proofs.YtbcnmmofccackaaGreatDoor.Own
