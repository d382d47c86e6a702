/-
  Own texts, bundled: OwnE2, ErrIs, LedErr.
-/
import Derived.Test.YtbecdihfopjlhaaGreatDoorPk10
import Derived.Test.YtbecdihfopjlhaaGreatDoorPk8
import Derived.Deep.Upon
import Derived.Test.YtbecdihfopjlhaaGreatDoorPk1
import Derived.LaidEql
import Derived.Stop.Asserts
import Derived.RowKitTokens
import Derived.Test.YtbecdihfopjlhaaGreatDoorPk7
namespace Go.Proofs.YtbecdihfopjlhaaGreatDoor.Own
open Go.RowKit
set_option linter.unusedVariables false
set_option linter.unusedSimpArgs false

theorem OwnE.nil (w : World) (B : Nat) : OwnE w B (.slice none 0 0) [] := ⟨rfl, .inl ⟨rfl, rfl⟩⟩
theorem OwnE.block {w : World} {B : Nat} {a : Option Addr} {n cap : Nat} {xs : List Q4} (h : OwnE w B (.slice a n cap) xs) (x : Addr) (hx : a = some x) : B ≤ x.block ∧ x.block < w.heap.size := by
  obtain ⟨_, h2⟩ := h
  rcases h2 with ⟨hv, _⟩ | ⟨g, _, _, hv, hg, hh, _⟩
  · injection hv with e1; rw [hx] at e1; cases e1
  · injection hv with e1
    rw [hx] at e1
    injection e1 with e1
    rw [e1]
    exact ⟨hg, (Array.getElem?_eq_some_iff.1 hh).1⟩
/-- What an append leaves of the blocks that the row does not own. -/
theorem OwnE.dones {w : World} {B : Nat} {a : Option Addr} {n cap : Nat} {xs : List Q4} (h : OwnE w B (.slice a n cap) xs) : OwnD w B a xs := by
  obtain ⟨h1, h2⟩ := h
  rcases h2 with ⟨hv, h0⟩ | ⟨g, cap', cur, hv, hg, hh, hmc, hml, hsz, htk⟩
  · exact .inl (List.eq_nil_of_length_eq_zero h0)
  · injection hv with e1 e2 e3
    refine .inr ⟨g, e1, hg, ⟨(Array.getElem?_eq_some_iff.1 hh).1, fun i hi => ?_⟩, fun o => frozen_heap hh o⟩
    have e := flat4_get xs i hi
    rw [← htk, List.getElem?_take_of_lt (by omega), List.getElem?_take_of_lt (by omega), List.getElem?_take_of_lt (by omega), List.getElem?_take_of_lt (by omega)] at e
    rw [cell_heap hh, cell_heap hh, cell_heap hh, cell_heap hh, Nat.zero_add]
    simpa using e


/-- An append of nothing, at a step of a region that draws. -/
theorem step_append_none {P : Program} {ops : Array Oper} {o : Oper} {a : Act} {w : World} {K : Act → World → Prop} {Q : Exit → Act → World → Prop} {E : Prop} (hgd : o.guard = none) (s x : Operand) (t : TypeId)
    (ho : o.op = .call { callee := .builtin .append, args := #[s, x], argTypes := #[t, t] }) (e : TypeId) (i : TypeInfo) (ht : P.underlying t = some (.slice e)) (hi : P.info? e = some i)
    (g : Addr) (hs : a.eval s = .slice (some g) 0 0) (ad : Option Addr) (c : Nat) (hx : a.eval x = .slice ad 0 c) (h : K (a.put o.dst (.slice (some g) 0 0)) w) :
    if Region.wanted o (yielded ops a.tmps) = true then Oper.wp P o a w K Q else E := by
  have hw : Region.wanted o (yielded ops a.tmps) = true := by simp [Region.wanted, hgd]
  rw [if_pos hw]
  have hsrc : Src P i.size t (.slice ad 0 c) 0 [] w := by
    cases ad with
    | none => exact Src.ofNil w ht c
    | some ad => exact Src.ofSlice w ht ad 0 c [] (by simp) (fun j u h => by simp at h) (fun u h => by simp at h)
  have hr := run_append_nothing w t t o.type e i ht hi (some g) 0 0 (Nat.le_refl _) _ hsrc
  unfold Oper.wp execOp
  simp only [ho, resolve, invoke, builtin, Sem.run_bind, Sem.run_pure, Result.andThen_ok, List.map_toArray, List.map_cons, List.map_nil, hs, hx, hr]
  exact h
end Go.Proofs.YtbecdihfopjlhaaGreatDoor.Own

namespace Go.Proofs.YtbecdihfopjlhaaGreatDoor.Own
open Go.RowKit Go.Extern.Stop Go.Stop Go.Extern
set_option linter.unusedVariables false

theorem callTypeOf (v : Value) (w : World) : (callFunc 78 #[.iface 219 v]).run Tryz.prog w = .ok (.value (.iface 181 (.agg #[.pointer (some ⟨6, 219, none⟩)]))) w := by kernel_rfl
theorem callComparable (w : World) : (callFunc 164 #[.agg #[.pointer (some ⟨6, 219, none⟩)]]).run Tryz.prog w = .ok (.value (.bool true)) w := by kernel_rfl
theorem methodComparable (v : Value) (w : World) : (Go.method 362 181 v "Comparable").run Tryz.prog w = .ok (164, v) w := by kernel_rfl
theorem isComp : (Tryz.prog.info? 219).map (·.comparable) = some true := by kernel_rfl
theorem isSize : (Tryz.prog.info? 249).map (·.size) = some 1 := by kernel_rfl
theorem noIsE (v : Value) (xT : TypeId) (w : World) : (Instr.typeAssert (.iface 219 v) xT 183 true).run Tryz.prog w = .ok (.tuple #[.nilIface, .bool false]) w := run_typeAssert_lacksB Tryz.underlying183 (by kernel_rfl) (by kernel_rfl) v xT w
theorem noUnwrapE (v : Value) (xT : TypeId) (w : World) : (Instr.typeAssert (.iface 219 v) xT 186 true).run Tryz.prog w = .ok (.tuple #[.nilIface, .bool false]) w := run_typeAssert_lacksB Tryz.underlying186 (by kernel_rfl) (by kernel_rfl) v xT w
theorem noUnwrapsE (v : Value) (xT : TypeId) (w : World) : (Instr.typeAssert (.iface 219 v) xT 188 true).run Tryz.prog w = .ok (.tuple #[.nilIface, .bool false]) w := run_typeAssert_lacksB Tryz.underlying188 (by kernel_rfl) (by kernel_rfl) v xT w

/-- An error by its pointer. -/
def errV (a : Addr) : Value := .iface 219 (.pointer (some a))

set_option maxRecDepth 100000 in
set_option maxHeartbeats 1000000 in
/-- errors.Is of an error and itself. -/
theorem isSame (a : Addr) (w : World) :
    Calls Tryz.prog 35 #[.iface 219 (.pointer (some a)), .iface 219 (.pointer (some a))] w fun e w' => e = .returned (.bool true) ∧ w' = w := by
  obtain ⟨i, hi, hcmp⟩ := Option.map_eq_some_iff.1 isComp
  obtain ⟨j, hj, hjs⟩ := Option.map_eq_some_iff.1 isSize
  have h8 := callTypeOf
  have h32 := callComparable
  have mR := methodComparable
  have heq := run_eql_iface_ptr_same (P := Tryz.prog) w a Tryz.underlying90 Tryz.underlying219 hi hcmp hj
  go_enter Tryz.func35, Tryz.ntmps35
  go_wp2
  refine wp_loop_rounds 1 ?_
  rw [rounds_succ]
  go_wp2
  go_ret
  exact ⟨rfl, rfl⟩

set_option maxRecDepth 100000 in
set_option maxHeartbeats 1000000 in
/-- errors.Is of nothing. -/
theorem isNil (b : Addr) (w : World) :
    Calls Tryz.prog 35 #[.nilIface, .iface 219 (.pointer (some b))] w fun e w' => e = .returned (.bool false) ∧ w' = w := by
  have hn := run_eql_iface_nil_left (P := Tryz.prog) w 219 (.pointer (some b)) Tryz.underlying90
  go_enter Tryz.func35, Tryz.ntmps35
  go_wp2
  go_ret
  exact ⟨rfl, rfl⟩

set_option maxRecDepth 100000 in
set_option maxHeartbeats 1000000 in
/-- errors.Is of two errors of two pointers. -/
theorem isOther (a b : Addr) (ca cb : Array Value) (ta tb : TypeId) (w : World) (hne : a ≠ b) (ha : w.heap[a.block]? = some (.cells ca ta (0, 0))) (hb : w.heap[b.block]? = some (.cells cb tb (0, 0))) :
    Calls Tryz.prog 35 #[.iface 219 (.pointer (some a)), .iface 219 (.pointer (some b))] w fun e w' => e = .returned (.bool false) ∧ w' = w := by
  obtain ⟨i, hi, hcmp⟩ := Option.map_eq_some_iff.1 isComp
  obtain ⟨j, hj, hjs⟩ := Option.map_eq_some_iff.1 isSize
  have h8 := callTypeOf
  have h32 := callComparable
  have mR := methodComparable
  have nE := noIsE
  have uE := noUnwrapE
  have vE := noUnwrapsE
  have heq := run_eql_iface_ptr_other (P := Tryz.prog) w Tryz.underlying90 Tryz.underlying219 hi hcmp hj (by rw [hjs]; decide) hne ha hb
  go_enter Tryz.func35, Tryz.ntmps35
  go_wp2
  refine wp_loop_rounds 1 ?_
  rw [rounds_succ]
  go_wp2
  go_ret
  exact ⟨rfl, rfl⟩
end Go.Proofs.YtbecdihfopjlhaaGreatDoor.Own

namespace Go.Proofs.YtbecdihfopjlhaaGreatDoor.Own
open Go.RowKit
set_option linter.unusedVariables false

/-- The six verdicts below block N: each variable holds a pointer to a block of its own. -/
structure Errs (N : Nat) (w : World) (E : Nat → Addr) : Prop where
  size : N ≤ w.heap.size
  low : 6 ≤ N
  g0 : w.cell? ⟨0, 0, none⟩ = some (.iface 219 (.pointer (some (E 0))))
  g1 : w.cell? ⟨1, 0, none⟩ = some (.iface 219 (.pointer (some (E 1))))
  g2 : w.cell? ⟨2, 0, none⟩ = some (.iface 219 (.pointer (some (E 2))))
  g3 : w.cell? ⟨3, 0, none⟩ = some (.iface 219 (.pointer (some (E 3))))
  g4 : w.cell? ⟨4, 0, none⟩ = some (.iface 219 (.pointer (some (E 4))))
  g5 : w.cell? ⟨5, 0, none⟩ = some (.iface 219 (.pointer (some (E 5))))
  at_ : ∀ i, i < 6 → (E i).block < N ∧ ∃ c t, w.heap[(E i).block]? = some (.cells c t (0, 0))
  ne : ∀ i j, i < 6 → j < 6 → i ≠ j → E i ≠ E j
theorem Errs.below {N : Nat} {w w' : World} {E : Nat → Addr} (h : Errs N w E) (hb : Below N w w') : Errs N w' E := by
  have l := h.low
  have c : ∀ g, g < 6 → w'.cell? ⟨g, 0, none⟩ = w.cell? ⟨g, 0, none⟩ := fun g hg => hb.cell (p := ⟨g, 0, none⟩) (by show g < N; omega)
  exact ⟨Nat.le_trans h.size hb.size, h.low, by rw [c _ (by decide)]; exact h.g0, by rw [c _ (by decide)]; exact h.g1, by rw [c _ (by decide)]; exact h.g2, by rw [c _ (by decide)]; exact h.g3, by rw [c _ (by decide)]; exact h.g4, by rw [c _ (by decide)]; exact h.g5,
    fun i hi => ⟨(h.at_ i hi).1, by obtain ⟨hl, x, t, e⟩ := h.at_ i hi; exact ⟨x, t, by rw [hb.block _ hl]; exact e⟩⟩, h.ne⟩
theorem Errs.keep {N : Nat} {w w' : World} {E : Nat → Addr} (h : Errs N w E) (hb : Below w.heap.size w w') : Errs N w' E := h.below (hb.mono h.size)
theorem Errs.is {N : Nat} {w : World} {E : Nat → Addr} (h : Errs N w E) (i j : Nat) (hi : i < 6) (hj : j < 6) :
    Calls Tryz.prog 35 #[.iface 219 (.pointer (some (E i))), .iface 219 (.pointer (some (E j)))] w fun e w' => e = .returned (.bool (i == j)) ∧ w' = w := by
  by_cases e : i = j
  · subst e
    rw [beq_self_eq_true]
    exact isSame (E i) w
  · rw [beq_eq_false_iff_ne.2 e]
    obtain ⟨_, ci, ti, ei⟩ := h.at_ i hi
    obtain ⟨_, cj, tj, ej⟩ := h.at_ j hj
    exact isOther (E i) (E j) ci cj ti tj w (h.ne i j hi hj e) ei ej

/-- The verdict of a code: none, of one that is done. -/
def verV (E : Nat → Addr) (i : Nat) : Value := if i = 0 then .nilIface else .iface 219 (.pointer (some (E i)))
theorem verV_zero (E : Nat → Addr) : verV E 0 = .nilIface := rfl
theorem verV_pos (E : Nat → Addr) {i : Nat} (h : i ≠ 0) : verV E i = .iface 219 (.pointer (some (E i))) := by unfold verV; rw [if_neg h]
theorem Errs.is0 {N : Nat} {w : World} {E : Nat → Addr} (h : Errs N w E) (i : Nat) (hi : i < 6) :
    Calls Tryz.prog 35 #[verV E i, .iface 219 (.pointer (some (E 0)))] w fun e w' => e = .returned (.bool false) ∧ w' = w := by
  by_cases e : i = 0
  · subst e; exact isNil (E 0) w
  · rw [verV_pos E e]
    have := h.is i 0 hi (by omega)
    rw [beq_eq_false_iff_ne.2 e] at this
    exact this

set_option maxRecDepth 100000 in
set_option maxHeartbeats 2000000 in
theorem certCode (N : Nat) (E : Nat → Addr) (w : World) (hE : Errs N w E) (i : Nat) (hi : i < 6) :
    Calls Tryz.prog 51 #[verV E i] w fun e w' => e = .returned (.int .i64 (i : Int)) ∧ w' = w := by
  obtain ⟨g1, g2, g3, g4, g5⟩ : w.cell? ⟨1, 0, none⟩ = some (.iface 219 (.pointer (some (E 1)))) ∧ w.cell? ⟨2, 0, none⟩ = some (.iface 219 (.pointer (some (E 2)))) ∧ w.cell? ⟨3, 0, none⟩ = some (.iface 219 (.pointer (some (E 3)))) ∧ w.cell? ⟨4, 0, none⟩ = some (.iface 219 (.pointer (some (E 4)))) ∧ w.cell? ⟨5, 0, none⟩ = some (.iface 219 (.pointer (some (E 5)))) := ⟨hE.g1, hE.g2, hE.g3, hE.g4, hE.g5⟩
  by_cases h0 : i = 0
  · subst h0
    rw [verV_zero]
    go_enter Tryz.func51, Tryz.ntmps51
    go_wp2_with fail
    go_ret
    exact ⟨rfl, rfl⟩
  · rw [verV_pos E h0]
    have I1 : Hid (Calls Tryz.prog 35 #[.iface 219 (.pointer (some (E i))), .iface 219 (.pointer (some (E 1)))] w fun e w' => e = .returned (.bool (i == 1)) ∧ w' = w) := hE.is i 1 hi (by omega)
    have I2 : Hid (Calls Tryz.prog 35 #[.iface 219 (.pointer (some (E i))), .iface 219 (.pointer (some (E 2)))] w fun e w' => e = .returned (.bool (i == 2)) ∧ w' = w) := hE.is i 2 hi (by omega)
    have I3 : Hid (Calls Tryz.prog 35 #[.iface 219 (.pointer (some (E i))), .iface 219 (.pointer (some (E 3)))] w fun e w' => e = .returned (.bool (i == 3)) ∧ w' = w) := hE.is i 3 hi (by omega)
    have I4 : Hid (Calls Tryz.prog 35 #[.iface 219 (.pointer (some (E i))), .iface 219 (.pointer (some (E 4)))] w fun e w' => e = .returned (.bool (i == 4)) ∧ w' = w) := hE.is i 4 hi (by omega)
    have I5 : Hid (Calls Tryz.prog 35 #[.iface 219 (.pointer (some (E i))), .iface 219 (.pointer (some (E 5)))] w fun e w' => e = .returned (.bool (i == 5)) ∧ w' = w) := hE.is i 5 hi (by omega)
    clear hE
    generalize E i = a at *
    generalize E 1 = a1 at *
    generalize E 2 = a2 at *
    generalize E 3 = a3 at *
    generalize E 4 = a4 at *
    generalize E 5 = a5 at *
    rcases (by omega : i = 1 ∨ i = 2 ∨ i = 3 ∨ i = 4 ∨ i = 5) with rfl | rfl | rfl | rfl | rfl
    · go_enter Tryz.func51, Tryz.ntmps51
      go_wp2_with fail
      refine Calls.mono I1.out ?_
      rintro e w1 ⟨rfl, rfl⟩
      go_wp2_with fail
      go_ret
      exact ⟨rfl, rfl⟩
    · go_enter Tryz.func51, Tryz.ntmps51
      go_wp2_with fail
      refine Calls.mono I1.out ?_
      rintro e w1 ⟨rfl, rfl⟩
      go_wp2_with fail
      refine Calls.mono I2.out ?_
      rintro e w1 ⟨rfl, rfl⟩
      go_wp2_with fail
      go_ret
      exact ⟨rfl, rfl⟩
    · go_enter Tryz.func51, Tryz.ntmps51
      go_wp2_with fail
      refine Calls.mono I1.out ?_
      rintro e w1 ⟨rfl, rfl⟩
      go_wp2_with fail
      refine Calls.mono I2.out ?_
      rintro e w1 ⟨rfl, rfl⟩
      go_wp2_with fail
      refine Calls.mono I3.out ?_
      rintro e w1 ⟨rfl, rfl⟩
      go_wp2_with fail
      go_ret
      exact ⟨rfl, rfl⟩
    · go_enter Tryz.func51, Tryz.ntmps51
      go_wp2_with fail
      refine Calls.mono I1.out ?_
      rintro e w1 ⟨rfl, rfl⟩
      go_wp2_with fail
      refine Calls.mono I2.out ?_
      rintro e w1 ⟨rfl, rfl⟩
      go_wp2_with fail
      refine Calls.mono I3.out ?_
      rintro e w1 ⟨rfl, rfl⟩
      go_wp2_with fail
      refine Calls.mono I4.out ?_
      rintro e w1 ⟨rfl, rfl⟩
      go_wp2_with fail
      go_ret
      exact ⟨rfl, rfl⟩
    · go_enter Tryz.func51, Tryz.ntmps51
      go_wp2_with fail
      refine Calls.mono I1.out ?_
      rintro e w1 ⟨rfl, rfl⟩
      go_wp2_with fail
      refine Calls.mono I2.out ?_
      rintro e w1 ⟨rfl, rfl⟩
      go_wp2_with fail
      refine Calls.mono I3.out ?_
      rintro e w1 ⟨rfl, rfl⟩
      go_wp2_with fail
      refine Calls.mono I4.out ?_
      rintro e w1 ⟨rfl, rfl⟩
      go_wp2_with fail
      refine Calls.mono I5.out ?_
      rintro e w1 ⟨rfl, rfl⟩
      go_wp2_with fail
      go_ret
      exact ⟨rfl, rfl⟩
end Go.Proofs.YtbecdihfopjlhaaGreatDoor.Own
