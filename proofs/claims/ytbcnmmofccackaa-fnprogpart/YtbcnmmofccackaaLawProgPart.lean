/-
  Own text: laws.FnProgPart.
-/
import Derived.Test.YtbcnmmofccackaaDrawBent
import Derived.Test.YtbcnmmofccackaaProgOkI
import Derived.Test.YtbcnmmofccackaaProgOkS
import Derived.Test.YtbcnmmofccackaaGatherL
import Derived.Test.YtbcnmmofccackaaGatherP
namespace Go.Proofs.Ytbcnmmofccackaa.Own
open Go.RowKit
set_option linter.unusedVariables false
set_option linter.unusedSimpArgs false

theorem row_slice {w : World} {B e s n : Nat} {v : Value} {cs : List Value} (h : w.ownsRow B e s v n cs) : ∃ a cap, v = .slice a n cap := by
  obtain ⟨_, h⟩ := h
  rcases h with ⟨hv, h0⟩ | ⟨g, cap, cur, hv, _⟩
  · exact ⟨none, 0, by rw [hv, h0]⟩
  · exact ⟨_, cap, hv⟩

theorem any_pre {α : Type} (p : α → Bool) (xs : List α) (k : Nat) (h : (xs.take k).any p = true) : xs.any p = true := by
  rw [List.any_eq_true] at h ⊢
  obtain ⟨x, hx, hp⟩ := h
  exact ⟨x, List.mem_of_mem_take hx, hp⟩
theorem boxesTo_pre (f : Q4 → Int → Bool) (xs : List Q4) (k : Nat) : ∀ n, (boxesTo f (xs.take k) n).length ≤ (boxesTo f xs n).length
  | 0 => Nat.le_refl _
  | n + 1 => by
    have ih := boxesTo_pre f xs k n
    have hp := any_pre (fun p => f p (n : Int)) xs k
    simp only [boxesTo, List.length_append]
    cases h1 : (xs.take k).any (fun p => f p (n : Int)) with
    | true => rw [hp h1]; simp; omega
    | false =>
      rw [if_neg (by simp)]
      simp only [List.length_nil]
      omega
theorem progOk_pre {xs : List Q4} (h : progOk xs = true) (k : Nat) : progOk (xs.take k) = true := by
  simp only [progOk, Bool.and_eq_true, decide_eq_true_eq, List.all_eq_true] at h ⊢
  refine ⟨by simp; omega, fun x hx => h.2 x (List.mem_of_mem_take hx)⟩
theorem ins9 (k : Int) : insOk (k, 9, 9, 0) = false := by
  unfold insOk
  split
  · rfl
  split
  · rfl
  split
  · rfl
  split <;> rfl
theorem progOk_bent (xs : List Q4) (k : Int) : progOk (xs ++ [(k, 9, 9, 0)]) = false := by
  simp [progOk, ins9]

theorem flat4_at {w : World} {b : Nat} {xs : List Q4} (h : At4 w b 0 xs) (j : Nat) (v : Value) (hv : (flat4 xs)[j]? = some v) : w.cell? ((⟨b, 0, none⟩ : Addr).add j) = some v := by
  have e : (⟨b, 0, none⟩ : Addr).add j = ⟨b, j, none⟩ := by unfold Addr.add; split <;> simp_all
  have hl : j < (flat4 xs).length := (List.getElem?_eq_some_iff.1 hv).1
  rw [flat4_length] at hl
  have hk : j / 4 < xs.length := by omega
  have f := flat4_get _ (j / 4) hk
  have hx := h.2 (j / 4) hk
  rw [Nat.zero_add] at hx
  rw [e]
  have m : j % 4 = 0 ∨ j % 4 = 1 ∨ j % 4 = 2 ∨ j % 4 = 3 := by omega
  rcases m with m | m | m | m
  · rw [show j / 4 * 4 = j by omega] at f hx
    rw [hx.1, ← f.1, hv]
  · rw [show j / 4 * 4 + 1 = j by omega] at f hx
    rw [hx.2.1, ← f.2.1, hv]
  · rw [show j / 4 * 4 + 2 = j by omega] at f hx
    rw [hx.2.2.1, ← f.2.2.1, hv]
  · rw [show j / 4 * 4 + 3 = j by omega] at f hx
    rw [hx.2.2.2, ← f.2.2.2, hv]
theorem At4.pre {w : World} {b off : Nat} {xs : List Q4} (h : At4 w b off xs) (n : Nat) : At4 w b off (xs.take n) := by
  refine ⟨h.1, fun i hi => ?_⟩
  rw [List.length_take] at hi
  have e : (xs.take n).getD i q0 = xs.getD i q0 := by simp [List.getD, show i < n by omega]
  rw [e]; exact h.2 i (by omega)

/-- A program that a draw laid. -/
def Laid (w' : World) (B : Nat) (g cap : Nat) (xs : List Q4) : Prop := OwnQ w' B (.slice (some ⟨g, 0, none⟩) xs.length cap) xs ∧ xs.length ≤ 11 ∧ Sm4 xs

set_option maxHeartbeats 1000000 in
theorem drawProgOk (a : Option Addr) (n c : Nat) (w : World) (h : Bytes w w.heap.size a n) (hc : n ≤ c) (hm : c ≤ maxLen) :
    Calls Try.prog 14 #[.slice a n c] w fun e w' => ∃ g cap xs, e = .returned (.slice (some ⟨g, 0, none⟩) xs.length cap) ∧ Laid w' w.heap.size g cap xs ∧ Below w.heap.size w w' := by
  have HB : Hid (Bytes w w.heap.size a n) := h
  clear h
  go_enter Try.func14, Try.ntmps14
  go_wp2_with fail
  refine (l15Open a n c w HB.out hc hm).mono ?_
  rintro e w1 ⟨rfl, hR, hb⟩
  have HR : Hid (Rd w1 w.heap.size (w.heap.size + 1) 0) := hR
  have HB1 : Hid (Below w.heap.size w w1) := hb
  clear hR hb
  go_wp2_with fail
  refine (l2Bent w.heap.size (w.heap.size + 1) 0 w1 HR.out (by omega)).mono ?_
  rintro e w2 ⟨g, cap, xs, rfl, hown, hl, hsm, _, hbar⟩
  have F : Hid (Laid w2 w.heap.size g cap xs ∧ Bar w.heap.size w1 w2) := ⟨⟨hown.lower HB1.out.size, hl, hsm⟩, hbar⟩
  clear hown hsm hbar
  go_wp2
  go_ret
  exact ⟨g, cap, xs, rfl, F.out.1, HB1.out.trans (F.out.2.below (Nat.le_refl _) HB1.out.size)⟩

set_option maxRecDepth 100000 in
set_option maxHeartbeats 4000000 in
theorem lawProgPart (a : Option Addr) (n c : Nat) (a' : Option Addr) (n' c' : Nat) (w : World) (h : Bytes w w.heap.size a n) (hc : n ≤ c) (hm : c ≤ maxLen) (h' : Bytes w w.heap.size a' n') (hc' : n' ≤ c') (hm' : c' ≤ maxLen) :
    Calls Try.prog 3 #[.slice a n c, .slice a' n' c'] w fun e w' => e = .returned (.bool true) ∧ Below w.heap.size w w' := by
  have HB : Hid (Bytes w w.heap.size a n) := h
  have HM : Hid (c ≤ maxLen) := hm
  clear h h'
  unfold maxLen at hm hm'
  by_cases hn : n ≤ 1048576
  · have hd : decide ((1048576 : Int) < (n : Int)) = false := by simp; omega
    by_cases hn' : n' ≤ 1048576
    · have hd' : decide ((1048576 : Int) < (n' : Int)) = false := by simp; omega
      go_enter Try.func3, Try.ntmps3
      go_wp2_with fail
      refine (drawProgOk a n c w HB.out hc HM.out).mono ?_
      rintro e w1 ⟨g, cap, xs, rfl, hla, hb⟩
      have L1 : Hid (OwnQ w1 w.heap.size (.slice (some ⟨g, 0, none⟩) xs.length cap) xs) := hla.1
      have hl := hla.2.1
      have B1 : Hid (Below w.heap.size w w1) := hb
      clear hla hb
      have SL : Hid (∀ w', Below w1.heap.size w1 w' → Sl4 w' (some ⟨g, 0, none⟩) xs) := fun w' hb => .inr ⟨g, 0, rfl, (L1.out.cells.2.1).below hb⟩
      go_wp2_with fail
      refine (implProgOk _ cap xs w1 (SL.out w1 (Below.refl _ _)) (by omega)).mono ?_
      rintro e w2 ⟨rfl, b2⟩
      have K2 : Hid (Below w1.heap.size w1 w2) := b2
      clear b2
      go_wp2_with fail
      refine (specProgOk _ cap xs w2 (SL.out w2 K2.out) (by omega)).mono ?_
      rintro e w3 ⟨rfl, b3⟩
      have K3 : Hid (Below w1.heap.size w1 w3) := K2.out.trans (b3.mono K2.out.size)
      clear b3
      have C3 := specProgOk (some ⟨g, 0, none⟩) cap xs w3 (SL.out w3 K3.out) (by omega)
      have ne : ∀ b : Bool, (b != b) = false := fun b => by cases b <;> rfl
      have ne' := ne (progOk xs)
      clear ne
      cases hok : progOk xs with
      | false =>
        rw [hok] at C3 ne'
        have C3' : Hid _ := C3
        clear C3
        go_wp2_with fail
        refine Calls.mono C3'.out ?_
        rintro e w4 ⟨rfl, b4⟩
        have K4 : Hid (Below w.heap.size w w4) := B1.out.trans ((K3.out.trans (b4.mono K3.out.size)).mono B1.out.size)
        clear b4
        go_wp2_with fail
        go_ret
        exact ⟨rfl, K4.out⟩
      | true =>
        rw [hok] at C3 ne'
        have C3' : Hid _ := C3
        have HOK : Hid (progOk xs = true) := hok
        clear C3 hok
        go_wp2_with fail
        refine Calls.mono C3'.out ?_
        rintro e w4 ⟨rfl, b4⟩
        have K4 : Hid (Below w1.heap.size w1 w4) := K3.out.trans (b4.mono K3.out.size)
        clear b4
        obtain ⟨kk, ek, lk⟩ : ∃ kk : Nat, (n' : Int) % ((xs.length : Int) + 1) = kk ∧ kk ≤ xs.length := ⟨n' % (xs.length + 1), by simp, by have := Nat.mod_lt n' (show 0 < xs.length + 1 by omega); omega⟩
        obtain ⟨m7, em⟩ : ∃ m : Nat, (n' : Int) % 7 = m := ⟨n' % 7, by simp⟩
        have hkc : kk ≤ cap := Nat.le_trans lk L1.out.cells.2.2.2
        obtain ⟨i0, hi, hz0, hz1, hz2⟩ := info_parts infoInsD
        have I0 : Hid (Try.prog.info? 27 = some i0 ∧ i0.zero = some (.agg #[.int .i64 0, .int .i64 0, .int .i64 0, .int .i64 0]) ∧ i0.size = 4 ∧ i0.bytes = 32) := ⟨hi, hz0, hz1, hz2⟩
        clear hi hz0 hz1 hz2
        have A4 : Hid (At4 w4 g 0 xs) := (L1.out.cells.2.1).below K4.out
        have LT : Hid ((xs.take kk).length = kk) := by show _ = _; rw [List.length_take]; omega
        have LF : Hid ((flat4 (xs.take kk)).length = kk * 4) := by show _ = _; rw [flat4_length, LT.out]
        have M0 : Hid (0 + kk ≤ maxLen) := by show _ ≤ _; unfold maxLen; omega
        have M1 : Hid (kk + 1 ≤ maxLen) := by show _ ≤ _; unfold maxLen; omega
        have M2 : Hid ((0 + kk) * 32 ≤ 140737488355328) := by show _ ≤ _; omega
        have M3 : Hid ((kk + 1) * 32 ≤ 140737488355328) := by show _ ≤ _; omega
        go_wp2_with (at_builtin; refine wpList_append_own _ rfl (.tmp 36) (.tmp 37) 23 rfl w4.heap.size 27 i0 (.agg #[.int .i64 0, .int .i64 0, .int .i64 0, .int .i64 0]) 4 32 Try.underlying23 I0.out.1 I0.out.2.1 I0.out.2.2.1 I0.out.2.2.2 rfl (by decide) (.slice (some ⟨w4.heap.size, 0, none⟩) 0 0) 0 [] rfl (own_emptyQ w4 w4.heap.size rfl) ⟨g, 0, none⟩ kk cap (flat4 (xs.take kk)) rfl LF.out (flat4_at ((A4.out.pre kk).below (below_new _ _))) (flat4_one _) M0.out M2.out (by rw [size_new]; omega) ?_)
        intro v1 w5 hown hgr _
        have O5 : Hid (w5.ownsRow w4.heap.size 27 4 v1 kk (flat4 (xs.take kk))) := by
          show w5.ownsRow _ _ _ _ _ _
          simpa using hown
        have B5 : Hid (Below w4.heap.size w4 w5) := Below.grown (below_new _ _) hgr (by rw [size_new]; omega) (fun k hk => by simp only [Value.ownBlock] at hk; injection hk with hk; omega)
        have E5 : Hid ((1 : Int) + (m7 : Int) = 1 + m7) := rfl
        clear hown hgr
        go_wp2_with (at_builtin; refine wpList_append_own _ rfl (.tmp 38) (.tmp 44) 23 rfl w4.heap.size 27 i0 (.agg #[.int .i64 0, .int .i64 0, .int .i64 0, .int .i64 0]) 4 32 Try.underlying23 I0.out.1 I0.out.2.1 I0.out.2.2.1 I0.out.2.2.2 rfl (by decide) v1 kk (flat4 (xs.take kk)) rfl (World.ownsRow.kept O5.out (World.grownBy_alloc _ _ none) (by cases v1.ownBlock <;> simp)) ⟨w5.heap.size, 0, none⟩ 1 1 [.int .i64 (1 + (m7 : Int)), .int .i64 9, .int .i64 9, .int .i64 0] rfl rfl (four_new _ _ _ _ _) (by simp [Value.oneCell']) M1.out M3.out (by rw [size_new]; have := B5.out.size; omega) ?_)
        intro v2 w6 hown hgr _
        have O6 : Hid (OwnQ w6 w4.heap.size v2 (xs.take kk ++ [(1 + (m7 : Int), 9, 9, 0)])) := by
          show OwnQ _ _ _ _
          unfold OwnQ
          rw [List.length_append, LT.out, flat4_snoc]
          exact hown
        have B6 : Hid (Below w4.heap.size w4 w6) := Below.grown (B5.out.alloc B5.out.size _) hgr (by rw [size_new]; have := B5.out.size; omega) (fun k hk => (O5.out.lt k hk).1)
        clear hown hgr
        obtain ⟨ab, capb, rfl, slb, hcb⟩ := O6.out.open
        have SB : Hid (Sl4 w6 ab (xs.take kk ++ [(1 + (m7 : Int), 9, 9, 0)])) := slb
        have LB : Hid ((xs.take kk ++ [(1 + (m7 : Int), 9, 9, 0)]).length = kk + 1) := by show _ = _; rw [List.length_append, LT.out]; rfl
        have K6 : Hid (Below w1.heap.size w1 w6) := K4.out.trans (B6.out.mono K4.out.size)
        have SP : Hid (∀ w', Below w1.heap.size w1 w' → Sl4 w' (some ⟨g, 0, none⟩) (xs.take kk)) := fun w' hb => .inr ⟨g, 0, rfl, ((L1.out.cells.2.1).below hb).pre kk⟩
        have CP1 : Hid (∀ w', Below w1.heap.size w1 w' → Calls Try.prog 15 #[.slice (some ⟨g, 0, none⟩) kk cap] w' fun e w'' => e = .returned (.bool true) ∧ Below w'.heap.size w' w'') := fun w' hb => by
          have := implProgOk (some ⟨g, 0, none⟩) cap (xs.take kk) w' (SP.out w' hb) (by rw [LT.out]; omega)
          rw [LT.out, progOk_pre HOK.out] at this
          exact this
        have CL1 : Hid (∀ w', Below w1.heap.size w1 w' → Calls Try.prog 17 #[.slice (some ⟨g, 0, none⟩) kk cap] w' fun e w'' => (∃ ad cp, e = .returned (.slice ad (boxesTo loadsQ (xs.take kk) 4).length cp)) ∧ Below w'.heap.size w' w'') := fun w' hb => by
          have := implProgLoads (some ⟨g, 0, none⟩) cap (xs.take kk) (by rw [LT.out]; omega) w' (SP.out w' hb)
          rw [LT.out] at this
          refine this.mono ?_
          rintro e w'' ⟨⟨v, rfl, ho⟩, hb⟩
          obtain ⟨ad, cp, rfl⟩ := row_slice ho
          exact ⟨⟨ad, cp, rfl⟩, hb⟩
        have CQ1 : Hid (∀ w', Below w1.heap.size w1 w' → Calls Try.prog 18 #[.slice (some ⟨g, 0, none⟩) kk cap] w' fun e w'' => (∃ ad cp, e = .returned (.slice ad (boxesTo putsQ (xs.take kk) 4).length cp)) ∧ Below w'.heap.size w' w'') := fun w' hb => by
          have := implProgPuts (some ⟨g, 0, none⟩) cap (xs.take kk) (by rw [LT.out]; omega) w' (SP.out w' hb)
          rw [LT.out] at this
          refine this.mono ?_
          rintro e w'' ⟨⟨v, rfl, ho⟩, hb⟩
          obtain ⟨ad, cp, rfl⟩ := row_slice ho
          exact ⟨⟨ad, cp, rfl⟩, hb⟩
        have CB : Hid (∀ w', Below w6.heap.size w6 w' → Calls Try.prog 15 #[.slice ab (xs.take kk ++ [(1 + (m7 : Int), 9, 9, 0)]).length capb] w' fun e w'' => e = .returned (.bool false) ∧ Below w'.heap.size w' w'') := fun w' hb => by
          have := implProgOk ab capb (xs.take kk ++ [(1 + (m7 : Int), 9, 9, 0)]) w' (SB.out.below hb) (by rw [LB.out]; omega)
          rw [progOk_bent] at this
          exact this
        have l1 := boxesTo_pre loadsQ xs kk 4
        have l2 := boxesTo_pre putsQ xs kk 4
        have l3 := boxesTo_len loadsQ xs 4
        have l4 := boxesTo_len putsQ xs 4
        have d1 : decide (((boxesTo loadsQ (xs.take kk) 4).length : Int) ≤ ((boxesTo loadsQ xs 4).length : Int)) = true := by simp; omega
        have d2 : decide (((boxesTo putsQ (xs.take kk) 4).length : Int) ≤ ((boxesTo putsQ xs 4).length : Int)) = true := by simp; omega
        clear slb hcb
        generalize (xs.take kk ++ [(1 + (m7 : Int), 9, 9, 0)]).length = nb at CB
        generalize (boxesTo loadsQ (xs.take kk) 4).length = x1 at CL1 l1 d1
        generalize (boxesTo putsQ (xs.take kk) 4).length = x2 at CQ1 l2 d2
        go_wp2_with fail
        refine (CP1.out w6 K6.out).mono ?_
        rintro e w7 ⟨rfl, b7⟩
        have K7 : Hid (Below w1.heap.size w1 w7) := K6.out.trans (b7.mono K6.out.size)
        have M7 : Hid (Below w6.heap.size w6 w7) := b7
        clear b7
        go_wp2_with fail
        refine (CL1.out w7 K7.out).mono ?_
        rintro e w8 ⟨⟨ad8, cp8, rfl⟩, b8⟩
        have K8 : Hid (Below w1.heap.size w1 w8) := K7.out.trans (b8.mono K7.out.size)
        have M8 : Hid (Below w6.heap.size w6 w8) := M7.out.trans (b8.mono M7.out.size)
        clear b8
        go_wp2_with fail
        refine (implProgLoads _ cap xs (by omega) w8 (SL.out w8 K8.out)).mono ?_
        rintro e w9 ⟨⟨v9, rfl, ho9⟩, b9⟩
        obtain ⟨ad9, cp9, rfl⟩ := row_slice ho9
        have K9 : Hid (Below w1.heap.size w1 w9) := K8.out.trans (b9.mono K8.out.size)
        have M9 : Hid (Below w6.heap.size w6 w9) := M8.out.trans (b9.mono M8.out.size)
        clear b9 ho9
        go_wp2_with fail
        refine (CQ1.out w9 K9.out).mono ?_
        rintro e w10 ⟨⟨ad10, cp10, rfl⟩, b10⟩
        have K10 : Hid (Below w1.heap.size w1 w10) := K9.out.trans (b10.mono K9.out.size)
        have M10 : Hid (Below w6.heap.size w6 w10) := M9.out.trans (b10.mono M9.out.size)
        clear b10
        go_wp2_with fail
        refine (implProgPuts _ cap xs (by omega) w10 (SL.out w10 K10.out)).mono ?_
        rintro e w11 ⟨⟨v11, rfl, ho11⟩, b11⟩
        obtain ⟨ad11, cp11, rfl⟩ := row_slice ho11
        have K11 : Hid (Below w1.heap.size w1 w11) := K10.out.trans (b11.mono K10.out.size)
        have M11 : Hid (Below w6.heap.size w6 w11) := M10.out.trans (b11.mono M10.out.size)
        clear b11 ho11
        go_wp2_with fail
        refine (CB.out w11 M11.out).mono ?_
        rintro e w12 ⟨rfl, b12⟩
        have K12 : Hid (Below w.heap.size w w12) := B1.out.trans ((K11.out.trans (b12.mono K11.out.size)).mono B1.out.size)
        clear b12
        go_wp2_with fail
        go_ret
        exact ⟨rfl, K12.out⟩
    · go_enter Try.func3, Try.ntmps3
      go_wp2_with fail
      go_ret
      exact ⟨rfl, Below.refl _ _⟩
  · go_enter Try.func3, Try.ntmps3
    go_wp2_with fail
    go_ret
    exact ⟨rfl, Below.refl _ _⟩
end Go.Proofs.Ytbcnmmofccackaa.Own
