/-
  Own text: what (impl.span).there, (impl.span).text and (impl.Ins).text do.
-/
import Derived.Test.YtbcnmmofccackaaGreatDoorItoa
import Derived.Test.YtbcnmmofccackaaGreatDoorForm
import Derived.Test.YtbcnmmofccackaaGreatDoorText2
import Derived.Lib.QuietBelow
import Derived.BigQuiet
import Derived.Deep.QuietTactic
import Derived.ChangeKeysEq
namespace Go.Proofs.YtbcnmmofccackaaGreatDoor.Own
open Go.RowKit Go.Sort
set_option linter.unusedVariables false
set_option linter.unusedSimpArgs false

def noSpan (lo hi : Int) : Bool := lo == 0 && hi == 0
/-- A number behind a word, if one is to be there. -/
def spanT (lo hi n : Int) : List UInt8 := if noSpan lo hi = true then [] else 32 :: Lib.itoa n

theorem eqSpan1 (d : Nat) (a b a' b' : Int) (w : World) : (Op.equalIn (d+2) 74 (.agg #[.int .i64 a, .int .i64 b]) (.agg #[.int .i64 a', .int .i64 b'])).run Tryz.prog w = .ok (a == a' && b == b') w := by
  go_simp
  by_cases h : a = a'
  · by_cases h1 : b = b' <;> simp [h, h1]
  · simp [h]
theorem neqSpan (a b a' b' : Int) (w : World) : (binOp .neq 74 (.agg #[.int .i64 a, .int .i64 b]) (.agg #[.int .i64 a', .int .i64 b'])).run Tryz.prog w = .ok (.bool (!(a == a' && b == b'))) w := by
  rw [run_neq_struct, eqSpan1 9998]; rfl

set_option maxHeartbeats 1000000 in
theorem thereC (lo hi : Int) (w : World) : Calls Tryz.prog 59 #[.agg #[.int .i64 lo, .int .i64 hi]] w fun e w' => e = .returned (.bool (!noSpan lo hi)) ∧ Below w.heap.size w w' := by
  have hne := fun w => neqSpan lo hi 0 0 w
  have E : Hid (noSpan lo hi = (lo == 0 && hi == 0)) := rfl
  generalize (lo == 0 && hi == 0) = t at hne E
  generalize noSpan lo hi = r at E ⊢
  go_enter Tryz.func59, Tryz.ntmps59
  go_wp2
  go_ret
  exact ⟨ret_bool (by rw [E.out]), (Below.refl _ _).alloc (Nat.le_refl _) _⟩

theorem spanT_len (lo hi n : Int) (h : Fits n) : (spanT lo hi n).length ≤ 22 := by
  unfold spanT
  split
  · simp
  · have := itoa_len n h; simp; omega

set_option maxHeartbeats 1000000 in
theorem spanTextC (lo hi n : Int) (w : World) (hf : Fits n) (ht : Tab w) : Calls Tryz.prog 42 #[.agg #[.int .i64 lo, .int .i64 hi], .int .i64 n] w fun e w' => e = .returned (.string (str (spanT lo hi n))) ∧ Below w.heap.size w w' := by
  have HT : Hid (Tab w) := ht
  clear ht
  have CT := fun W => thereC lo hi W
  have E : Hid (spanT lo hi n = if noSpan lo hi = true then [] else 32 :: Lib.itoa n) := rfl
  generalize noSpan lo hi = r at CT E
  have HC : Hid (∀ W, Calls Tryz.prog 59 #[.agg #[.int .i64 lo, .int .i64 hi]] W fun e w' => e = .returned (.bool (!r)) ∧ Below W.heap.size W w') := CT
  clear CT
  generalize spanT lo hi n = l at E ⊢
  cases r with
  | true =>
    have E' : Hid (l = []) := by show _ = _; rw [E.out]; rfl
    clear E
    go_enter Tryz.func42, Tryz.ntmps42
    go_wp2_with fail
    refine (HC.out _).mono ?_
    rintro e w1 ⟨rfl, hb1⟩
    have B1 : Hid (Below w.heap.size w w1) := ((Below.refl _ _).alloc (Nat.le_refl _) _).trans (hb1.mono (by simp))
    clear hb1
    go_wp2_with fail
    go_ret
    exact ⟨ret_str (by rw [E'.out]; rfl), B1.out⟩
  | false =>
    have E' : Hid (l = 32 :: Lib.itoa n) := by show _ = _; rw [E.out]; rfl
    clear E
    obtain ⟨s1, e1⟩ : ∃ s, s = str (Lib.itoa n) := ⟨_, rfl⟩
    have z1 : s1.size ≤ 21 := by rw [e1, str_size]; exact itoa_len n hf
    have E1 : Hid (s1 = str (Lib.itoa n)) := e1
    clear e1
    go_enter Tryz.func42, Tryz.ntmps42
    go_wp2_with fail
    refine (HC.out _).mono ?_
    rintro e w1 ⟨rfl, hb1⟩
    have B1 : Hid (Below w.heap.size w w1) := ((Below.refl _ _).alloc (Nat.le_refl _) _).trans (hb1.mono (by simp))
    clear hb1
    go_wp2_with fail
    refine (itoaC n w1 hf (tab_below HT.out HT.out B1.out (Nat.le_refl _))).mono ?_
    rintro e w2 ⟨rfl, hb2⟩
    rw [← E1.out]
    have B2 : Hid (Below w.heap.size w w2) := B1.out.trans (hb2.mono B1.out.size)
    clear hb2
    go_wp2_with fail
    go_ret
    refine ⟨ret_str ?_, B2.out⟩
    rw [E'.out, E1.out]
    exact str_append [32] _

set_option maxRecDepth 100000 in
set_option maxHeartbeats 4000000 in
/-- The text of an instruction, whatever the form of its kind is. -/
theorem insTextG (k a b n : Int) (word : ByteArray) (l1 h1 l2 h2 l3 h3 : Int) (hform : ∀ W, Calls Tryz.prog 41 #[.int .i64 k] W fun e w' => e = .returned (.agg #[.string word, .int .i64 l1, .int .i64 h1, .int .i64 l2, .int .i64 h2, .int .i64 l3, .int .i64 h3]) ∧ Below W.heap.size W w')
    (hwz : word.size ≤ 4) (hw : word.toList.isEmpty = false) (fa : Fits a) (fb : Fits b) (fn : Fits n) (w : World) (ht : Tab w) :
    Calls Tryz.prog 21 #[.agg #[.int .i64 k, .int .i64 a, .int .i64 b, .int .i64 n]] w fun e w' => e = .returned (.string (str (word.data.toList ++ spanT l1 h1 a ++ spanT l2 h2 b ++ spanT l3 h3 n))) ∧ Below w.heap.size w w' := by
  have HT : Hid (Tab w) := ht
  have HF : Hid (∀ W, Calls Tryz.prog 41 #[.int .i64 k] W fun e w' => e = .returned (.agg #[.string word, .int .i64 l1, .int .i64 h1, .int .i64 l2, .int .i64 h2, .int .i64 l3, .int .i64 h3]) ∧ Below W.heap.size W w') := hform
  clear ht hform
  obtain ⟨s1, e1⟩ : ∃ s, s = str (spanT l1 h1 a) := ⟨_, rfl⟩
  obtain ⟨s2, e2⟩ : ∃ s, s = str (spanT l2 h2 b) := ⟨_, rfl⟩
  obtain ⟨s3, e3⟩ : ∃ s, s = str (spanT l3 h3 n) := ⟨_, rfl⟩
  have z1 : s1.size ≤ 22 := by rw [e1, str_size]; exact spanT_len _ _ a fa
  have z2 : s2.size ≤ 22 := by rw [e2, str_size]; exact spanT_len _ _ b fb
  have z3 : s3.size ≤ 22 := by rw [e3, str_size]; exact spanT_len _ _ n fn
  have E1 : Hid (s1 = str (spanT l1 h1 a)) := e1
  have E2 : Hid (s2 = str (spanT l2 h2 b)) := e2
  have E3 : Hid (s3 = str (spanT l3 h3 n)) := e3
  clear e1 e2 e3
  go_enter Tryz.func21, Tryz.ntmps21
  go_wp2_with fail
  refine (HF.out _).mono ?_
  rintro e w1 ⟨rfl, hb1⟩
  obtain ⟨X, hX⟩ : ∃ X, X = w1.alloc (.cells #[.string word, .int .i64 l1, .int .i64 h1, .int .i64 l2, .int .i64 h2, .int .i64 l3, .int .i64 h3] 76) := ⟨_, rfl⟩
  have b1 : Below w.heap.size w w1 := ((Below.refl _ _).alloc (Nat.le_refl _) _).trans (hb1.mono (by simp))
  have BX : Hid (Below w.heap.size w X) := by show Below _ _ _; rw [hX]; exact b1.alloc b1.size _
  have lt1 : w.heap.size < w1.heap.size := by have := hb1.size; simp at this; omega
  have hp : w1.heap[w.heap.size]? = some (.cells #[.int .i64 k, .int .i64 a, .int .i64 b, .int .i64 n] 41) := by
    rw [hb1.block w.heap.size (by simp)]; exact heap_new _ _
  have hpX : X.heap[w.heap.size]? = some (.cells #[.int .i64 k, .int .i64 a, .int .i64 b, .int .i64 n] 41) := by
    rw [hX, heap_old _ _ _ lt1]; exact hp
  have hqX : X.heap[w1.heap.size]? = some (.cells #[.string word, .int .i64 l1, .int .i64 h1, .int .i64 l2, .int .i64 h2, .int .i64 l3, .int .i64 h3] 76) := by
    rw [hX]; exact heap_new _ _
  have TX : Hid (∀ d os, Tab (grow (redrawn X d) os)) := fun d os => tab_below HT.out HT.out (BX.out.trans ((below_regrown X d os).mono BX.out.size)) (Nat.le_refl _)
  have Q1 : Hid (∀ d os, Calls Tryz.prog 42 #[.agg #[.int .i64 l1, .int .i64 h1], .int .i64 a] (grow (redrawn X d) os) fun e w'' => e = .returned (.string s1) ∧ ∃ p : Regrown, w'' = grow (redrawn X p.d) p.os) := fun d os => Calls.regrown_of (by rw [E1.out]; exact spanTextC l1 h1 a _ fa (TX.out d os))
  have Q2 : Hid (∀ d os, Calls Tryz.prog 42 #[.agg #[.int .i64 l2, .int .i64 h2], .int .i64 b] (grow (redrawn X d) os) fun e w'' => e = .returned (.string s2) ∧ ∃ p : Regrown, w'' = grow (redrawn X p.d) p.os) := fun d os => Calls.regrown_of (by rw [E2.out]; exact spanTextC l2 h2 b _ fb (TX.out d os))
  have Q3 : Hid (∀ d os, Calls Tryz.prog 42 #[.agg #[.int .i64 l3, .int .i64 h3], .int .i64 n] (grow (redrawn X d) os) fun e w'' => e = .returned (.string s3) ∧ ∃ p : Regrown, w'' = grow (redrawn X p.d) p.os) := fun d os => Calls.regrown_of (by rw [E3.out]; exact spanTextC l3 h3 n _ fn (TX.out d os))
  have m0 := cell_regrown (show X.cell? ⟨w1.heap.size, 0, none⟩ = some (.string word) by rw [cell_heap hqX]; rfl)
  have m1 := cell_regrown (show X.cell? ⟨w1.heap.size, 1, none⟩ = some (.int .i64 l1) by rw [cell_heap hqX]; rfl)
  have m2 := cell_regrown (show X.cell? ⟨w1.heap.size, 2, none⟩ = some (.int .i64 h1) by rw [cell_heap hqX]; rfl)
  have m3 := cell_regrown (show X.cell? ⟨w1.heap.size, 3, none⟩ = some (.int .i64 l2) by rw [cell_heap hqX]; rfl)
  have m4 := cell_regrown (show X.cell? ⟨w1.heap.size, 4, none⟩ = some (.int .i64 h2) by rw [cell_heap hqX]; rfl)
  have m5 := cell_regrown (show X.cell? ⟨w1.heap.size, 5, none⟩ = some (.int .i64 l3) by rw [cell_heap hqX]; rfl)
  have m6 := cell_regrown (show X.cell? ⟨w1.heap.size, 6, none⟩ = some (.int .i64 h3) by rw [cell_heap hqX]; rfl)
  have k1 := cell_regrown (show X.cell? ⟨w.heap.size, 1, none⟩ = some (.int .i64 a) by rw [cell_heap hpX]; rfl)
  have k2 := cell_regrown (show X.cell? ⟨w.heap.size, 2, none⟩ = some (.int .i64 b) by rw [cell_heap hpX]; rfl)
  have k3 := cell_regrown (show X.cell? ⟨w.heap.size, 3, none⟩ = some (.int .i64 n) by rw [cell_heap hpX]; rfl)
  have HX : Hid (X = w1.alloc (.cells #[.string word, .int .i64 l1, .int .i64 h1, .int .i64 l2, .int .i64 h2, .int .i64 l3, .int .i64 h3] 76)) := hX
  clear hX b1 hb1 hp hpX hqX
  have n1 : ¬ 9223372036854775807 < word.size + s1.size := by omega
  have n2 : ¬ 9223372036854775807 < word.size + s1.size + s2.size := by omega
  have n3 : ¬ 9223372036854775807 < word.size + s1.size + s2.size + s3.size := by omega
  go_wp2_with fail
  rw [← HX.out]
  refine wp_region_quiet_below (by kernel_rfl) (by kernel_rfl) ?_
  repeat (quiet_step (first | (go_at_call_of 42 (Value.int IntKind.i64 a); exact Q1.out _ _) | (go_at_call_of 42 (Value.int IntKind.i64 b); exact Q2.out _ _) | (go_at_call_of 42 (Value.int IntKind.i64 n); exact Q3.out _ _)))
  refine wpQuiet_nil ?_
  intro _ hw'
  obtain ⟨⟨dq, osq⟩, hw''⟩ := hw'
  have hx : Hid (Below X.heap.size X (grow (redrawn X dq) osq)) := below_regrown X dq osq
  rw [← hw''] at hx
  clear hw''
  go_wp2
  go_ret
  refine ⟨ret_str ?_, BX.out.trans (hx.out.mono BX.out.size)⟩
  apply str_eq
  simp only [list_append]
  rw [E1.out, E2.out, E3.out, str_list, str_list, str_list]

theorem spanT_yes {lo hi : Int} (n : Int) (h : noSpan lo hi = false) : spanT lo hi n = 32 :: Lib.itoa n := by unfold spanT; rw [h]; rfl
theorem spanT_no {lo hi : Int} (n : Int) (h : noSpan lo hi = true) : spanT lo hi n = [] := by unfold spanT; rw [h]; rfl

set_option maxRecDepth 100000 in
set_option maxHeartbeats 1000000 in
theorem insTextNo (k a b n : Int) (w : World) (h : NoKind k) :
    Calls Tryz.prog 21 #[.agg #[.int .i64 k, .int .i64 a, .int .i64 b, .int .i64 n]] w fun e w' => e = .returned (.string (str [110, 111, 110, 101])) ∧ Below w.heap.size w w' := by
  go_enter Tryz.func21, Tryz.ntmps21
  go_wp2_with fail
  refine (formNo k _ h).mono ?_
  rintro e w1 ⟨rfl, hb1⟩
  have B1 : Hid (Below w.heap.size w w1) := ((Below.refl _ _).alloc (Nat.le_refl _) _).trans (hb1.mono (by simp))
  clear hb1
  go_wp2_with fail
  go_ret
  exact ⟨rfl, B1.out.alloc B1.out.size _⟩

theorem noKindT {k : Int} (h1 : k ≠ 1) (h2 : k ≠ 2) (h3 : k ≠ 3) (h4 : k ≠ 4) (h5 : k ≠ 5) (h6 : k ≠ 6) (h7 : k ≠ 7) : NoKind k := by
  simp [NoKind, h1, h2, h3, h4, h5, h6, h7]

theorem insTextC (p : Q4) (w : World) (hf : FitsQ p) (ht : Tab w) :
    Calls Tryz.prog 21 #[.agg #[.int .i64 p.1, .int .i64 p.2.1, .int .i64 p.2.2.1, .int .i64 p.2.2.2]] w fun e w' => e = .returned (.string (str (insText p))) ∧ Below w.heap.size w w' := by
  obtain ⟨k, a, b, n⟩ := p
  obtain ⟨_, ha, hb, hn⟩ := hf
  by_cases h1 : k = 1
  · subst h1
    have C := insTextG 1 a b n ⟨#[108, 111, 97, 100]⟩ 0 3 0 3 0 0 form1 (by decide) (by decide +kernel) ha hb hn w ht
    rw [spanT_yes a (lo := 0) (hi := 3) (by decide), spanT_yes b (lo := 0) (hi := 3) (by decide), spanT_no n (lo := 0) (hi := 0) (by decide)] at C
    rw [insText_1]
    simpa using C
  by_cases h2 : k = 2
  · subst h2
    have C := insTextG 2 a b n ⟨#[112, 117, 116]⟩ 0 3 0 3 0 0 form2 (by decide) (by decide +kernel) ha hb hn w ht
    rw [spanT_yes a (lo := 0) (hi := 3) (by decide), spanT_yes b (lo := 0) (hi := 3) (by decide), spanT_no n (lo := 0) (hi := 0) (by decide)] at C
    rw [insText_2]
    simpa using C
  by_cases h3 : k = 3
  · subst h3
    have C := insTextG 3 a b n ⟨#[110, 117, 109]⟩ 0 3 0 0 (-1000000) 1000000 form3 (by decide) (by decide +kernel) ha hb hn w ht
    rw [spanT_yes a (lo := 0) (hi := 3) (by decide), spanT_no b (lo := 0) (hi := 0) (by decide), spanT_yes n (lo := (-1000000)) (hi := 1000000) (by decide)] at C
    rw [insText_3]
    simpa using C
  by_cases h4 : k = 4
  · subst h4
    have C := insTextG 4 a b n ⟨#[97, 100, 100]⟩ 0 3 0 3 0 0 form4 (by decide) (by decide +kernel) ha hb hn w ht
    rw [spanT_yes a (lo := 0) (hi := 3) (by decide), spanT_yes b (lo := 0) (hi := 3) (by decide), spanT_no n (lo := 0) (hi := 0) (by decide)] at C
    rw [insText_4]
    simpa using C
  by_cases h5 : k = 5
  · subst h5
    have C := insTextG 5 a b n ⟨#[115, 117, 98]⟩ 0 3 0 3 0 0 form5 (by decide) (by decide +kernel) ha hb hn w ht
    rw [spanT_yes a (lo := 0) (hi := 3) (by decide), spanT_yes b (lo := 0) (hi := 3) (by decide), spanT_no n (lo := 0) (hi := 0) (by decide)] at C
    rw [insText_5]
    simpa using C
  by_cases h6 : k = 6
  · subst h6
    have C := insTextG 6 a b n ⟨#[108, 101, 115, 115]⟩ 0 3 0 3 1 10 form6 (by decide) (by decide +kernel) ha hb hn w ht
    rw [spanT_yes a (lo := 0) (hi := 3) (by decide), spanT_yes b (lo := 0) (hi := 3) (by decide), spanT_yes n (lo := 1) (hi := 10) (by decide)] at C
    rw [insText_6]
    simpa using C
  by_cases h7 : k = 7
  · subst h7
    have C := insTextG 7 a b n ⟨#[102, 97, 105, 108]⟩ 0 0 0 0 0 0 form7 (by decide) (by decide +kernel) ha hb hn w ht
    rw [spanT_no a (lo := 0) (hi := 0) (by decide), spanT_no b (lo := 0) (hi := 0) (by decide), spanT_no n (lo := 0) (hi := 0) (by decide)] at C
    rw [insText_7]
    simpa using C
  rw [insText_no a b n h1 h2 h3 h4 h5 h6 h7]
  exact insTextNo k a b n w (noKindT h1 h2 h3 h4 h5 h6 h7)
end Go.Proofs.YtbcnmmofccackaaGreatDoor.Own
