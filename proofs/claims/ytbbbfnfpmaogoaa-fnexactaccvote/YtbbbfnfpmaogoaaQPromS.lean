/-
  Own text: what AccPromise answers, and what spec.AccPromise does.
-/
import Derived.Test.YtbbbfnfpmaogoaaQSpecList
import Derived.Test.YtbbbfnfpmaogoaaPk7
namespace Go.Proofs.Ytbbbfnfpmaogoaa.Own
open Go.RowKit
set_option linter.unusedVariables false
set_option linter.unusedSimpArgs false

/-- What AccPromise answers: the bound, the votes, whether it was promised. -/
def prM (m bal : Int) (bs : List V) : Int := if accOk m bs then promTo m bal else 0
def prB (m : Int) (bs : List V) : List V := if accOk m bs then bs else []
def prO (m bal : Int) (bs : List V) : Bool := accOk m bs && promOk m bal

set_option maxRecDepth 100000 in
set_option maxHeartbeats 800000 in
theorem specPromise (m : Int) (a : Option Addr) (c : Nat) (vs : List VM) (bal : Int) (w : World) (h1 : SlV w a vs) (l1 : VLs vs) (n1 : vs.length ≤ 2 ^ 30) :
    Calls Try.prog 24 #[.agg #[.int .i64 m, .slice a vs.length c], .int .i64 bal] w fun e w' => ∃ lv us, e = .returned (.tuple #[.agg #[.int .i64 (prM m bal (bodies vs)), lv], .bool (prO m bal (bodies vs))]) ∧ OwnR w' w.heap.size w'.heap.size lv us ∧ bodies us = prB m (bodies vs) ∧ Below w.heap.size w w' := by
  have H1 : Hid (SlV w a vs) := h1
  have L1 : Hid (VLs vs) := l1
  clear h1 l1
  obtain ⟨W, hW⟩ : ∃ W, W = (w.alloc (.cells #[.int .i64 m, .slice a vs.length c] 24)).alloc (.cells #[.int .i64 0, .slice none 0 0] 24) := ⟨_, rfl⟩
  have BW : Hid (Below w.heap.size w W) := by show Below _ _ _; rw [hW]; exact ((Below.refl _ _).alloc (Nat.le_refl _) _).alloc (by simp) _
  have PW : Hid (Blk W w.heap.size #[.int .i64 m, .slice a vs.length c] 24) := by show Blk _ _ _ _; rw [hW]; exact (Blk.new _ _ _).alloc _
  have ZW : Hid (Blk W (w.heap.size + 1) #[.int .i64 0, .slice none 0 0] 24) := by show Blk _ _ _ _; rw [hW]; exact Blk.new2 _ _ _ _
  have SW : Hid (W.heap.size = w.heap.size + 2) := by show _ = _; rw [hW]; simp
  have HW : Hid (W = _) := hW
  have CO : Hid _ := specAccOk m a c vs W (H1.out.below BW.out) (by omega) L1.out
  clear hW
  obtain ⟨p0, p1⟩ := PW.out.cells2
  obtain ⟨z0, z1⟩ := ZW.out.cells2
  have fz := ZW.out.frozen
  have E1 : Hid (prM m bal (bodies vs) = if accOk m (bodies vs) then promTo m bal else 0) := rfl
  have E2 : Hid (prB m (bodies vs) = if accOk m (bodies vs) then bodies vs else []) := rfl
  have E3 : Hid (prO m bal (bodies vs) = (accOk m (bodies vs) && promOk m bal)) := rfl
  generalize prM m bal (bodies vs) = M at E1 ⊢
  generalize prB m (bodies vs) = BB at E2 ⊢
  generalize prO m bal (bodies vs) = OO at E3 ⊢
  generalize accOk m (bodies vs) = K at CO E1 E2 E3
  go_enter Try.func24, Try.ntmps24
  go_wp2_with fail
  rw [← HW.out]
  refine Calls.mono CO.out ?_
  rintro e w1 ⟨rfl, b1⟩
  have B1 : Hid (Below W.heap.size W w1) := b1
  have K1 : Hid (Below w.heap.size w w1) := BW.out.trans (b1.mono BW.out.size)
  have P1 : Hid (Blk w1 w.heap.size #[.int .i64 m, .slice a vs.length c] 24) := PW.out.keep b1
  have Z1 : Hid (Blk w1 (w.heap.size + 1) #[.int .i64 0, .slice none 0 0] 24) := ZW.out.keep b1
  have S1 : Hid (w.heap.size + 2 ≤ w1.heap.size) := by show _ ≤ _; have := b1.size; have := SW.out; omega
  clear b1 p0 p1 z0 z1 fz CO
  obtain ⟨p0, p1⟩ := P1.out.cells2
  obtain ⟨z0, z1⟩ := Z1.out.cells2
  have fz := Z1.out.frozen
  cases K with
  | false =>
    go_wp2_with fail
    have zb := (((Z1.out.set 0 (.int .i64 0)).set 1 (.slice none 0 0)).eq (C' := #[.int .i64 0, .slice none 0 0]) (by simp)).cells2
    obtain ⟨y0, y1⟩ := zb
    refine bodyPost_ret (v := .tuple #[.agg #[.int .i64 0, .slice none 0 0], .bool false]) (by simp [results, Try.results24, go_sem, y0, y1]) rfl ?_
    refine ⟨_, [], by rw [E1.out, E3.out]; rfl, ?_, E2.out.symm, (K1.out.setCell (by show w.heap.size ≤ w.heap.size + 1; omega) _).setCell (by show w.heap.size ≤ w.heap.size + 1; omega) _⟩
    exact OwnR.nil _ _ _ _
  | true =>
    go_wp2_with fail
    refine (l6Copy m a c vs w1 (H1.out.below K1.out) L1.out n1).mono ?_
    rintro e w2 ⟨lv, us, rfl, o2, e2, b2⟩
    obtain ⟨la, lc, rfl⟩ := o2.form
    have O2 : Hid (OwnL w2 w1.heap.size (.slice la us.length lc) us) := o2
    have U2 : Hid (bodies us = bodies vs) := e2
    have B2 : Hid (Below w1.heap.size w1 w2) := b2
    clear o2 e2 b2
    go_wp2_with fail
    refine (l6Promise m la us.length lc bal w2).mono ?_
    rintro e w3 ⟨rfl, b3⟩
    have O3 : Hid (OwnL w3 w1.heap.size (.slice la us.length lc) us) := O2.out.keep b3
    have B3 : Hid (Below w1.heap.size w1 w3) := B2.out.trans (b3.mono B2.out.size)
    have Z3 : Hid (Blk w3 (w.heap.size + 1) #[.int .i64 0, .slice none 0 0] 24) := Z1.out.keep B3.out
    have F1 : Hid (M = promTo m bal) := E1.out
    have F3 : Hid (OO = promOk m bal) := E3.out
    clear b3 p0 p1 z0 z1 fz
    generalize promTo m bal = PT at F1 ⊢
    generalize promOk m bal = PO at F3 ⊢
    obtain ⟨z0, z1⟩ := Z3.out.cells2
    have fz := Z3.out.frozen
    go_wp2_with fail
    have zb := (((Z3.out.set 0 (.int .i64 PT)).set 1 (.slice la us.length lc)).eq (C' := #[.int .i64 PT, .slice la us.length lc]) (by simp)).cells2
    obtain ⟨y0, y1⟩ := zb
    refine bodyPost_ret (v := .tuple #[.agg #[.int .i64 PT, .slice la us.length lc], .bool PO]) (by simp [results, Try.results24, go_sem, y0, y1]) rfl ?_
    have on : Only (w.heap.size + 1) w3 ((w3.setCell ⟨w.heap.size + 1, 0, none⟩ (.int .i64 PT)).setCell ⟨w.heap.size + 1, 1, none⟩ (.slice la us.length lc)) := ((Only.refl _ _).setCell _).setCell _
    have s1 := S1.out
    refine ⟨_, us, by rw [F1.out, F3.out], OwnR.ofL ((O3.out.high (Nat.le_of_eq on.size.symm) fun b hb => on.block b (by omega)).low (by omega)), by rw [U2.out]; exact E2.out.symm, K1.out.trans ((B3.out.mono (by omega)).trans (on.below (by omega)))⟩
end Go.Proofs.Ytbbbfnfpmaogoaa.Own
