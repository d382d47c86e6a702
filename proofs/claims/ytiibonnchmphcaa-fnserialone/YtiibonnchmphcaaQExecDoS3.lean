/-
  Own text: what spec.ExecDo does.
-/
import Derived.Test.YtiibonnchmphcaaPk4
namespace Go.Proofs.Ytiibonnchmphcaa.Own
open Go.RowKit
set_option linter.unusedVariables false
set_option linter.unusedSimpArgs false

set_option maxRecDepth 100000 in
set_option maxHeartbeats 2000000 in
theorem specExecDo (a : Option Addr) (c : Nat) (bs : List P2) (a1 a2 : Option Addr) (c1 c2 : Nat) (xs ys : List P2) (v k : Int) (w : World) (h0 : Sl w a bs) (hn0 : bs.length ≤ 2 ^ 40) (h1 : Sl w a1 xs) (h2 : Sl w a2 ys) (hn1 : xs.length ≤ 2 ^ 40) (hn2 : ys.length ≤ 2 ^ 40) (hc1 : xs.length ≤ c1) (hc2 : ys.length ≤ c2) :
    Calls Try.prog 28 #[.slice a bs.length c, .agg #[.slice a1 xs.length c1, .slice a2 ys.length c2, .int .i64 v, .int .i64 k]] w fun e w' => ∃ g cap, e = .returned (.slice (some ⟨g, 0, none⟩) (execDo bs xs ys v k).length cap) ∧ Sl w' (some ⟨g, 0, none⟩) (execDo bs xs ys v k) ∧ w.heap.size ≤ g ∧ (execDo bs xs ys v k = [] ∨ ∀ o, w'.frozen? ⟨g, o, none⟩ = false) ∧ Below w.heap.size w w' := by
  have H0 : Hid (Sl w a bs) := h0
  have H1 : Hid (Sl w a1 xs) := h1
  have H2 : Hid (Sl w a2 ys) := h2
  clear h0 h1 h2
  have E : Hid (execDo bs xs ys v k = if boxOk bs && execOk xs ys v k then doPuts bs ys else []) := rfl
  obtain ⟨W, hW⟩ : ∃ W, W = w.alloc (.cells #[.slice a1 xs.length c1, .slice a2 ys.length c2, .int .i64 v, .int .i64 k] 30) := ⟨_, rfl⟩
  have BW : Hid (Below w.heap.size w W) := by show Below _ _ _; rw [hW]; exact below_new _ _
  have P0 : Hid (C4 W w.heap.size (.slice a1 xs.length c1) (.slice a2 ys.length c2) (.int .i64 v) (.int .i64 k)) := by show C4 _ _ _ _ _ _; rw [hW]; exact C4.new _ _ _ _ _ _
  have HW : Hid (W = _) := hW
  clear hW
  have CB := specOk a c bs W (H0.out.below BW.out) hn0
  cases hb : boxOk bs with
  | false =>
    rw [hb] at CB
    have CB' : Hid _ := CB
    have E0 : Hid (execDo bs xs ys v k = []) := by show _ = _; rw [E.out, hb]; rfl
    clear CB
    go_enter Try.func28, Try.ntmps28
    go_wp2_with fail
    rw [← HW.out]
    refine Calls.mono CB'.out ?_
    rintro e w1 ⟨rfl, rfl⟩
    go_wp2_with fail
    go_ret
    rw [E0.out]
    exact ⟨_, _, rfl, .inl rfl, BW.out.size, .inl rfl, BW.out.alloc BW.out.size _⟩
  | true =>
    rw [hb] at CB
    have CB' : Hid _ := CB
    have HL : Hid (bs.length = 4) := boxOk_len hb
    have HBO : Hid (boxOk bs = true) := hb
    clear CB hb
    go_enter Try.func28, Try.ntmps28
    go_wp2_with fail
    rw [← HW.out]
    refine Calls.mono CB'.out ?_
    rintro e w1 ⟨rfl, hw1⟩
    subst hw1
    obtain ⟨_, q0, q1, q2, q3⟩ := P0.out
    have CE := specExecOk a1 a2 c1 c2 xs ys v k w1 (H1.out.below BW.out) (H2.out.below BW.out) hn1 hn2 hc1 hc2
    cases he : execOk xs ys v k with
    | false =>
      rw [he] at CE
      have CE' : Hid _ := CE
      have E0 : Hid (execDo bs xs ys v k = []) := by show _ = _; rw [E.out, he]; simp
      clear CE
      go_wp2_with fail
      refine Calls.mono CE'.out ?_
      rintro e w2 ⟨rfl, b2⟩
      have B2 : Hid (Below w.heap.size w w2) := BW.out.trans (b2.mono BW.out.size)
      clear b2
      go_wp2_with fail
      go_ret
      rw [E0.out]
      exact ⟨_, _, rfl, .inl rfl, B2.out.size, .inl rfl, B2.out.alloc B2.out.size _⟩
    | true =>
      rw [he] at CE
      have CE' : Hid _ := CE
      have E2 : Hid (execDo bs xs ys v k = doPuts bs ys) := by show _ = _; rw [E.out, he, HBO.out]; rfl
      have HR : Hid (okAll numOk ys = true) := execOk_puts he
      have HLn : Hid ((doPuts bs ys).length = 4) := by show _ = _; rw [doPuts_length]; exact HL.out
      clear CE he
      go_wp2_with fail
      refine Calls.mono CE'.out ?_
      rintro e w2 ⟨rfl, b2⟩
      have B2 : Hid (Below w1.heap.size w1 w2) := b2
      clear b2 q0 q1 q2 q3
      obtain ⟨hlt2, q0, q1, q2, q3⟩ := P0.out.below B2.out
      have HS0 : Hid (Sl w2 a bs) := (H0.out.below BW.out).below B2.out
      have HS2 : Hid (Sl w2 a2 ys) := (H2.out.below BW.out).below B2.out
      have HG2 : Hid (ys = [] ∨ ∀ x, a2 = some x → x.block < w2.heap.size) := by
        rcases HS2.out with h | ⟨b, off, rfl, h⟩
        · exact .inl h
        · exact .inr fun x hx => by injection hx with hx; subst hx; exact h.1
      have AF : Hid (∀ w', Below w2.heap.size w2 w' → w'.cell? ⟨w.heap.size, 0, none⟩ = some (.slice a1 xs.length c1) ∧ w'.cell? ⟨w.heap.size, 1, none⟩ = some (.slice a2 ys.length c2) ∧ w'.cell? ⟨w.heap.size, 2, none⟩ = some (.int .i64 v) ∧ w'.cell? ⟨w.heap.size, 3, none⟩ = some (.int .i64 k)) :=
        fun w' hb => ((P0.out.below B2.out).below hb).2
      have h4 := HL.out
      have CPY : Hid (∀ W, Sl W a bs → Calls Try.prog 87 #[.slice a bs.length c] W fun e w' => ∃ g cap, e = .returned (.slice (some ⟨g, 0, none⟩) 4 cap) ∧ W.heap.size ≤ g ∧ BoxAt w' g 0 bs ∧ (∀ o, w'.frozen? ⟨g, o, none⟩ = false) ∧ Below W.heap.size W w') := fun W h => by
        have := l1Copy a c bs W h HL.out
        rw [HL.out] at this ⊢; exact this
      clear h4
      have DO : Hid (∀ g cap W, BoxAt W g 0 bs → (∀ o, W.frozen? ⟨g, o, none⟩ = false) → Sl W a2 ys → (ys = [] ∨ ∀ x, a2 = some x → x.block ≠ g) → Calls Try.prog 86 #[.slice (some ⟨g, 0, none⟩) 4 cap, .agg #[.slice a1 xs.length c1, .slice a2 ys.length c2, .int .i64 v, .int .i64 k]] W fun e w' => e = .returned (.slice (some ⟨g, 0, none⟩) 4 cap) ∧ BoxAt w' g 0 (doPuts bs ys) ∧ (∀ o, w'.frozen? ⟨g, o, none⟩ = false) ∧ Bar g W w') := by
        intro g cap W h1 h2 h3 h4
        exact l3Do g cap bs a1 a2 xs.length c1 c2 ys v k W HBO.out h1 h2 h3 h4 hn2 HR.out
      go_upto_region 3 with fail
      go_region_with (first | (go_at_call 87; refine (CPY.out _ ?_).mono ?_; exact HS0.out; rintro e w3 ⟨g, cap, rfl, hg, at3, fr3, b3⟩; have B3 : Hid (Below w2.heap.size w2 w3) := Below.trans ((Below.refl _ _).drew) b3; have G3 : Hid (w2.heap.size ≤ g) := hg; have A3 : Hid (BoxAt w3 g 0 bs ∧ ∀ o, w3.frozen? ⟨g, o, none⟩ = false) := ⟨at3, fr3⟩; obtain ⟨r0, r1, r2, r3⟩ := AF.out w3 B3.out; clear hg at3 fr3 b3) | (go_at_call 86; refine (DO.out _ _ _ ?_ ?_ ?_ ?_).mono ?_; exact A3.out.1; exact A3.out.2; exact HS2.out.below B3.out; exact HG2.out.imp id (fun h x hx => by have := h x hx; have := G3.out; omega); rintro e w4 ⟨rfl, at4, fr4, bar4⟩; have A4 : Hid (BoxAt w4 g 0 (doPuts bs ys) ∧ (∀ o, w4.frozen? ⟨g, o, none⟩ = false) ∧ Bar g w3 w4) := ⟨at4, fr4, bar4⟩; clear at4 fr4 bar4))
      all_goals
        go_wp2_with fail
        go_ret
        rw [E2.out]
        have hws : w.heap.size ≤ w2.heap.size := Nat.le_trans BW.out.size B2.out.size
        refine ⟨g, cap, by rw [HLn.out]; rfl, .inr ⟨_, _, rfl, A4.out.1⟩, Nat.le_trans hws G3.out, .inr A4.out.2.1, ?_⟩
        have hb := BW.out.trans ((B2.out.trans (B3.out.mono B2.out.size)).mono BW.out.size)
        exact hb.trans (A4.out.2.2.below (Nat.le_trans hws G3.out) hb.size)
end Go.Proofs.Ytiibonnchmphcaa.Own
