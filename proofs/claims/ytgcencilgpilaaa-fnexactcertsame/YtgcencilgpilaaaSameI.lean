/-
  Own text: what impl.BoxSame does.
-/
import Derived.Test.YtgcencilgpilaaaOk
import Derived.ChangeKeysEq
import Derived.BigQuiet
import Derived.Deep.QuietTactic
namespace Go.Proofs.Ytgcencilgpilaaa.Own
open Go.RowKit

theorem eqBox1 (d : Nat) (p1 p2 q1 q2 : Int) (w : World) : (Op.equalIn (d+2) 38 (.agg #[.int .i64 p1, .int .i64 p2]) (.agg #[.int .i64 q1, .int .i64 q2])).run Try.prog w = .ok (p1 == q1 && p2 == q2) w := by
  go_simp
  by_cases h : p1 = q1
  · by_cases h' : p2 = q2 <;> simp [h, h']
  · simp [h]
theorem neqBox (p1 p2 q1 q2 : Int) (w : World) : (binOp .neq 38 (.agg #[.int .i64 p1, .int .i64 p2]) (.agg #[.int .i64 q1, .int .i64 q2])).run Try.prog w = .ok (.bool (!(p1 == q1 && p2 == q2))) w := by
  rw [run_neq_struct, eqBox1 9998]; rfl

theorem cellsBox : Try.prog.cellsOf 38 = 2 := by kernel_rfl
section
variable (p0 p1 p2 p3 p4 p5 p6 p7 : Int) (w : World)
theorem part0 : (part 38 #[.int .i64 p0, .int .i64 p1, .int .i64 p2, .int .i64 p3, .int .i64 p4, .int .i64 p5, .int .i64 p6, .int .i64 p7] (0 * 2)).run Try.prog w = .ok (.agg #[.int .i64 p0, .int .i64 p1]) w := by kernel_rfl
theorem part1 : (part 38 #[.int .i64 p0, .int .i64 p1, .int .i64 p2, .int .i64 p3, .int .i64 p4, .int .i64 p5, .int .i64 p6, .int .i64 p7] (1 * 2)).run Try.prog w = .ok (.agg #[.int .i64 p2, .int .i64 p3]) w := by kernel_rfl
theorem part2 : (part 38 #[.int .i64 p0, .int .i64 p1, .int .i64 p2, .int .i64 p3, .int .i64 p4, .int .i64 p5, .int .i64 p6, .int .i64 p7] (2 * 2)).run Try.prog w = .ok (.agg #[.int .i64 p4, .int .i64 p5]) w := by kernel_rfl
theorem part3 : (part 38 #[.int .i64 p0, .int .i64 p1, .int .i64 p2, .int .i64 p3, .int .i64 p4, .int .i64 p5, .int .i64 p6, .int .i64 p7] (3 * 2)).run Try.prog w = .ok (.agg #[.int .i64 p6, .int .i64 p7]) w := by kernel_rfl
end
theorem eqArr (p0 p1 p2 p3 p4 p5 p6 p7 q0 q1 q2 q3 q4 q5 q6 q7: Int) (w : World) : (Op.equalIn 10000 104 (.agg #[.int .i64 p0, .int .i64 p1, .int .i64 p2, .int .i64 p3, .int .i64 p4, .int .i64 p5, .int .i64 p6, .int .i64 p7]) (.agg #[.int .i64 q0, .int .i64 q1, .int .i64 q2, .int .i64 q3, .int .i64 q4, .int .i64 q5, .int .i64 q6, .int .i64 q7])).run Try.prog w = .ok ((p0 == q0 && p1 == q1) && (p2 == q2 && p3 == q3) && (p4 == q4 && p5 == q5) && (p6 == q6 && p7 == q7)) w := by
  obtain ⟨i, hi⟩ : ∃ i, Try.prog.info? 38 = some i := by
    have := szBox
    cases h : Try.prog.info? 38 with
    | none => simp [h] at this
    | some i => exact ⟨i, rfl⟩
  rw [run_equalIn_array (P := Try.prog) w 9999 (t := 104) (e := 38) (n := 4) _ _ Try.underlying104 hi]
  simp only [show List.range 4 = [0, 1, 2, 3] from rfl, Op.eqItems, Sem.run_bind, cellsBox, part0, part1, part2, part3, eqBox1 9997, Result.andThen_ok, Sem.run_ite, Sem.run_pure]
  generalize (p0 == q0 && p1 == q1) = b0
  generalize (p2 == q2 && p3 == q3) = b1
  generalize (p4 == q4 && p5 == q5) = b2
  generalize (p6 == q6 && p7 == q7) = b3
  cases b0 <;> cases b1 <;> cases b2 <;> cases b3 <;> rfl

theorem take4_eq {xs ys : List (Int × Int)} {k : Nat} (hl : xs.length = ys.length) (h : xs.take k = ys.take k) (h0 : fromD xs k 0 = fromD ys k 0) (h1 : fromD xs k 1 = fromD ys k 1) (h2 : fromD xs k 2 = fromD ys k 2) (h3 : fromD xs k 3 = fromD ys k 3) :
    xs.take (k + 4) = ys.take (k + 4) := by
  apply List.ext_getElem?
  intro i
  by_cases hi : i < k
  · have := congrArg (fun l : List (Int × Int) => l[i]?) h
    simp only [List.getElem?_take, hi, if_true] at this
    simp only [List.getElem?_take, show i < k + 4 by omega, if_true, this]
  · by_cases hi2 : i < k + 4
    · simp only [List.getElem?_take, hi2, if_true]
      have key : ∀ j, fromD xs k j = fromD ys k j → i = k + j → xs[i]? = ys[i]? := by
        intro j e ei
        subst ei
        by_cases hx : k + j < xs.length
        · have hy : k + j < ys.length := by omega
          simp [fromD, List.getD, hx, hy] at e
          simp [hx, hy, e]
        · simp [show xs.length ≤ k + j by omega, show ys.length ≤ k + j by omega]
      rcases (by omega : i = k + 0 ∨ i = k + 1 ∨ i = k + 2 ∨ i = k + 3) with e | e | e | e
      · exact key 0 h0 e
      · exact key 1 h1 e
      · exact key 2 h2 e
      · exact key 3 h3 e
    · simp only [List.getElem?_take, hi2, if_false]

theorem ne_of_fromD {xs ys : List (Int × Int)} {k j : Nat} (h : fromD xs k j ≠ fromD ys k j) : (xs == ys) = false := ne_of_getD h

theorem pairEq (p q : Int × Int) : (p.1 == q.1 && p.2 == q.2) = decide (p = q) := by
  rw [Bool.eq_iff_iff]
  simp [Prod.ext_iff]

set_option maxRecDepth 100000 in
set_option maxHeartbeats 1000000 in
theorem implSame (a1 a2 : Option Addr) (c1 c2 : Nat) (xs ys : List (Int × Int)) (w : World) (h1 : Sl w a1 xs) (h2 : Sl w a2 ys) (l1 : xs.length ≤ c1) (l2 : ys.length ≤ c2) (m1 : xs.length ≤ 2 ^ 60) :
    Calls Try.prog 14 #[.slice a1 xs.length c1, .slice a2 ys.length c2] w fun e w' => e = .returned (.bool (xs == ys)) ∧ Below w.heap.size w w' := by
  have H1 : Hid (Sl w a1 xs) := h1
  have H2 : Hid (Sl w a2 ys) := h2
  clear h1 h2
  by_cases hl : xs.length = ys.length
  · have hl' : ((xs.length : Int) != (ys.length : Int)) = false := by simp [hl]
    have Hl : Hid (xs.length = ys.length) := hl
    clear hl
    go_enter Try.func14, Try.ntmps14
    go_wp2
    go_loopw [5] (fun i wr => ∃ k : Nat, k ≤ xs.length + 3 ∧ i = .int .i64 k ∧ Hid (xs.take k = ys.take k) ∧ Below w.heap.size w wr) (fun i _ => xs.length + 4 - (intOf i).toNat)
    case atStart => exact ⟨0, Nat.zero_le _, rfl, rfl, Below.refl _ _⟩
    case round =>
      obtain ⟨k, hk, rfl, hE, hB⟩ := hrel
      have HB : Hid (Below w.heap.size w wr) := hB
      clear hB
      by_cases hlt : k < xs.length
      · have hlt2 : k < ys.length := by rw [← Hl.out]; exact hlt
        go_wp2_with fail
        refine (boxesFrom a1 c1 xs k wr (H1.out.below HB.out) l1 (by omega)).mono ?_
        rintro e w1 ⟨rfl, hb1⟩
        have HB1 : Hid (Below w.heap.size w w1) := HB.out.trans (hb1.mono HB.out.size)
        clear hb1
        go_wp2_with fail
        refine (boxesFrom a2 c2 ys k w1 (H2.out.below HB1.out) l2 (by omega)).mono ?_
        rintro e w2 ⟨rfl, hb2⟩
        have HB2 : Hid (Below w.heap.size w w2) := HB1.out.trans (hb2.mono HB1.out.size)
        clear hb2
        have hne := eqArr (fromD xs k 0).1 (fromD xs k 0).2 (fromD xs k 1).1 (fromD xs k 1).2 (fromD xs k 2).1 (fromD xs k 2).2 (fromD xs k 3).1 (fromD xs k 3).2 (fromD ys k 0).1 (fromD ys k 0).2 (fromD ys k 1).1 (fromD ys k 1).2 (fromD ys k 2).1 (fromD ys k 2).2 (fromD ys k 3).1 (fromD ys k 3).2 w2
        simp only [pairEq] at hne
        by_cases t : fromD xs k 0 = fromD ys k 0 ∧ fromD xs k 1 = fromD ys k 1 ∧ fromD xs k 2 = fromD ys k 2 ∧ fromD xs k 3 = fromD ys k 3
        · obtain ⟨t0, t1, t2, t3⟩ := t
          have N : Hid (xs.take (k + 4) = ys.take (k + 4)) := take4_eq Hl.out hE t0 t1 t2 t3
          rw [show (decide (fromD xs k 0 = fromD ys k 0) && decide (fromD xs k 1 = fromD ys k 1) && decide (fromD xs k 2 = fromD ys k 2) && decide (fromD xs k 3 = fromD ys k 3)) = true by simp [t0, t1, t2, t3]] at hne
          clear t0 t1 t2 t3
          go_wp2
          go_roundw
          case rel => exact ⟨k + 4, by omega, by go_num, N, HB2.out⟩
          case measure => simp [intOf]; omega
        · have t' : (decide (fromD xs k 0 = fromD ys k 0) && decide (fromD xs k 1 = fromD ys k 1) && decide (fromD xs k 2 = fromD ys k 2) && decide (fromD xs k 3 = fromD ys k 3)) = false := by
            rw [Bool.eq_false_iff]; simp only [ne_eq, Bool.and_eq_true, decide_eq_true_eq]
            intro h; exact t ⟨h.1.1.1, h.1.1.2, h.1.2, h.2⟩
          rw [t'] at hne
          have F : Hid ((xs == ys) = false) := by
            show _ = false
            by_cases t0 : fromD xs k 0 = fromD ys k 0
            · by_cases t1 : fromD xs k 1 = fromD ys k 1
              · by_cases t2 : fromD xs k 2 = fromD ys k 2
                · by_cases t3 : fromD xs k 3 = fromD ys k 3
                  · exact absurd ⟨t0, t1, t2, t3⟩ t
                  · exact ne_of_fromD t3
                · exact ne_of_fromD t2
              · exact ne_of_fromD t1
            · exact ne_of_fromD t0
          clear t t'
          go_wp2
          go_ret
          exact ⟨ret_bool F.out.symm, HB2.out⟩
      · go_wp2
        go_ret
        refine ⟨ret_bool ?_, HB.out⟩
        have h := hE
        unfold Hid at h
        have h3 := Hl.out
        rw [List.take_of_length_le (by omega), List.take_of_length_le (by omega)] at h
        simp [h]
  · have hl' : ((xs.length : Int) != (ys.length : Int)) = true := by simp; omega
    go_enter Try.func14, Try.ntmps14
    go_wp2
    go_ret
    refine ⟨ret_bool ?_, Below.refl _ _⟩
    symm
    simp
    intro h; exact hl (by rw [h])
end Go.Proofs.Ytgcencilgpilaaa.Own
