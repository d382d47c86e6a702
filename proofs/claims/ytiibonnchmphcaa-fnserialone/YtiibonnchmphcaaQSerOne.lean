/-
  Own text: what impl.SerialOne and spec.SerialOne do.
-/
import Derived.Test.YtiibonnchmphcaaPk8
import Derived.Test.YtiibonnchmphcaaQRunB
import Derived.Test.YtiibonnchmphcaaQSerialMath
import Derived.Test.YtiibonnchmphcaaQExecDoI
import Derived.Test.YtiibonnchmphcaaQExecDoS3
namespace Go.Proofs.Ytiibonnchmphcaa.Own
open Go.RowKit
set_option linter.unusedVariables false
set_option linter.unusedSimpArgs false

/-- What a program that runs alone leaves and says. -/
def OnePost (bs : List P2) (xs : List Q4) (B : Nat) (e : Ending) (w' : World) : Prop :=
  ∃ ad cap, e = .returned (.tuple #[.slice ad (serialOne bs xs).length cap, .int .i64 (execRun bs xs).val, .int .i64 (execRun bs xs).code]) ∧ (serialOne bs xs).length ≤ cap ∧ OwnB w' B ad (serialOne bs xs)

theorem serialOne_do {bs : List P2} {xs : List Q4} (h : ¬ (execRun bs xs).code = 3) : boxOk bs = true ∧ progOk xs = true ∧ serialOne bs xs = doPuts bs (execRun bs xs).puts ∧ serialOne bs xs = execDo bs (execRun bs xs).reads (execRun bs xs).puts (execRun bs xs).val (execRun bs xs).code := by
  have h2 : (boxOk bs && progOk xs) = true := by
    cases e : boxOk bs && progOk xs with
    | true => rfl
    | false => exact absurd (execRun_code.2 e) h
  simp only [Bool.and_eq_true] at h2
  have e1 : serialOne bs xs = doPuts bs (execRun bs xs).puts := by unfold serialOne; rw [if_neg h]
  exact ⟨h2.1, h2.2, e1, by rw [e1, execDo_run h2.1]⟩
theorem serialOne_form {bs : List P2} {xs : List Q4} (h : (execRun bs xs).code = 3) : serialOne bs xs = [] ∧ (execRun bs xs).val = 0 := by
  refine ⟨by unfold serialOne; rw [if_pos h], ?_⟩
  rw [execRun_form (execRun_code.1 h)]

set_option maxRecDepth 100000 in
set_option maxHeartbeats 4000000 in
theorem implSerialOne (la pa : Option Addr) (lc pc : Nat) (bs : List P2) (xs : List Q4) (w : World) (hb : Sl w la bs) (hx : Sl4 w pa xs) (hlc : bs.length ≤ lc) (l2 : xs.length ≤ 2 ^ 40) :
    Calls Try.prog 42 #[.slice la bs.length lc, .slice pa xs.length pc] w fun e w' => OnePost bs xs w.heap.size e w' ∧ Below w.heap.size w w' := by
  have SB : Hid (Sl w la bs) := hb
  have SX : Hid (Sl4 w pa xs) := hx
  clear hb hx
  obtain ⟨f1, f2⟩ := execRun_four bs xs
  have EF : Hid ((execRun bs xs).code = 3 → serialOne bs xs = [] ∧ (execRun bs xs).val = 0) := serialOne_form
  have ED : Hid (¬ (execRun bs xs).code = 3 → serialOne bs xs = execDo bs (execRun bs xs).reads (execRun bs xs).puts (execRun bs xs).val (execRun bs xs).code) := fun h => (serialOne_do h).2.2.2
  have EO : Hid (∀ e w', OnePost bs xs w.heap.size e w' = ∃ ad cap, e = .returned (.tuple #[.slice ad (serialOne bs xs).length cap, .int .i64 (execRun bs xs).val, .int .i64 (execRun bs xs).code]) ∧ (serialOne bs xs).length ≤ cap ∧ OwnB w' w.heap.size ad (serialOne bs xs)) := fun _ _ => rfl
  have IR : Hid (Calls Try.prog 16 #[.slice la bs.length lc, .slice pa xs.length pc] w fun e w' => RunPost (execRun bs xs) w.heap.size e w' ∧ Below w.heap.size w w') := implRun la pa lc pc bs xs w SB.out SX.out hlc l2
  generalize execRun bs xs = o at f1 f2 EF ED EO IR
  generalize serialOne bs xs = R at EF ED EO
  go_enter Try.func42, Try.ntmps42
  go_wp2_with fail
  refine Calls.mono IR.out ?_
  rintro e w1 ⟨hp1, b1⟩
  obtain ⟨g1, e1, g2, e2, rfl, hr1⟩ := hp1.open
  obtain ⟨X, hX⟩ : ∃ X, X = w1.alloc (.cells #[.slice g1 o.reads.length e1, .slice g2 o.puts.length e2, .int .i64 o.val, .int .i64 o.code] 30) := ⟨_, rfl⟩
  have bX : Below w1.heap.size w1 X := by rw [hX]; exact below_new _ _
  have CX : Hid (C4 X w1.heap.size (.slice g1 o.reads.length e1) (.slice g2 o.puts.length e2) (.int .i64 o.val) (.int .i64 o.code)) := by show C4 _ _ _ _ _ _; rw [hX]; exact C4.new _ _ _ _ _ _
  have RX : Hid (RunB o w.heap.size X g1 g2) := hr1.below bX
  have BX : Hid (Below w.heap.size w X) := b1.trans (bX.mono b1.size)
  have HX : Hid (X = _) := hX
  clear hX bX hr1 b1 hp1
  obtain ⟨_, q0, q1, q2, q3⟩ := CX.out
  go_upto_region 2 with fail
  rw [← HX.out]
  by_cases hc : o.code = 3
  · obtain ⟨r1, r2⟩ := EF.out hc
    have hcb : (o.code == 3) = true := by simpa using hc
    go_wp2_with fail
    refine bodyPost_ret (v := .tuple #[.slice none 0 0, .int .i64 0, .int .i64 3]) (by simp [results, Try.results42, go_sem]) rfl ⟨?_, BX.out⟩
    rw [EO.out, r1, r2, hc]
    exact ⟨none, 0, rfl, Nat.le_refl _, .inl rfl⟩
  · have hcb : (o.code == 3) = false := by simpa using hc
    have RE := ED.out hc
    have DO : Hid (∀ W, Turned [] X W → Calls Try.prog 26 #[.slice la bs.length lc, .agg #[.slice g1 o.reads.length e1, .slice g2 o.puts.length e2, .int .i64 o.val, .int .i64 o.code]] W fun e w' => ∃ ad cap, e = .returned (.slice ad R.length cap) ∧ (R.length ≤ cap ∧ OwnB w' w.heap.size ad R ∧ Below w.heap.size w w') ∧ w'.cell? ⟨w1.heap.size, 2, none⟩ = some (.int .i64 o.val) ∧ w'.cell? ⟨w1.heap.size, 3, none⟩ = some (.int .i64 o.code)) := by
      intro W hW
      have hb : Below X.heap.size X W := ⟨hW.os, hW.tape, hW.output, hW.size, fun k hk => hW.block k hk (by simp)⟩
      have r := RX.out.below hb
      rw [RE]
      refine (implExecDo la lc bs g1 g2 e1 e2 o.reads o.puts o.val o.code W ((SB.out.below BX.out).below hb) hlc r.reads.sl r.puts.sl (by omega) (by omega)).mono ?_
      rintro e w' ⟨ad, cap, rfl, h1, h2, h3⟩
      have h4 : Below X.heap.size X w' := hb.trans (h3.mono hb.size)
      obtain ⟨_, _, _, c2, c3⟩ := CX.out.below h4
      exact ⟨ad, cap, rfl, ⟨h1, h2.weaken (Nat.le_trans BX.out.size hb.size), BX.out.trans (h4.mono BX.out.size)⟩, c2, c3⟩
    clear RE ED EF
    go_upto_region 4 with fail
    go_region_with (first | (go_at_call 26; refine Calls.mono (DO.out _ (Turned.refl _ _).drew) ?_; rintro e w2 ⟨ad, cap, rfl, hD, d2, d3⟩; have HD : Hid (R.length ≤ cap ∧ OwnB w2 w.heap.size ad R ∧ Below w.heap.size w w2) := hD; clear hD))
    all_goals
      go_wp2_with fail
      refine bodyPost_ret (v := .tuple #[.slice ad R.length cap, .int .i64 o.val, .int .i64 o.code]) (by simp [results, Try.results42, go_sem]) rfl ⟨?_, HD.out.2.2⟩
      rw [EO.out]
      exact ⟨ad, cap, rfl, HD.out.1, HD.out.2.1⟩
end Go.Proofs.Ytiibonnchmphcaa.Own
