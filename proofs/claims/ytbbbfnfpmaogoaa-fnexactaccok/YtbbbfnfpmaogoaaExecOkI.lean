/-
  Own text: what impl.isNumber, (*impl.boxMarks).first, readsOk, putsOk, (impl.Run).endOk and impl.ExecOk do.
-/
import Derived.Test.YtbbbfnfpmaogoaaExecMath
namespace Go.Proofs.Ytbbbfnfpmaogoaa.Own
open Go.RowKit
set_option linter.unusedVariables false
set_option linter.unusedSimpArgs false

set_option maxHeartbeats 400000 in
theorem isNumberC (n : Int) (w : World) : Calls Try.prog 185 #[.int .i64 n] w fun e w' => e = .returned (.bool (numOk n)) ∧ w' = w := by
  have e : Hid (numOk n = (decide (-1000000 ≤ n) && decide (n ≤ 1000000))) := rfl
  by_cases h1 : -1000000 ≤ n
  · by_cases h2 : n ≤ 1000000
    all_goals
      go_enter Try.func185, Try.ntmps185
      go_wp2
      go_ret
      exact ⟨ret_bool (by rw [e.out]; simp [h1, h2]), rfl⟩
  · have h1' : decide (-1000000 ≤ n) = false := by simpa using h1
    go_enter Try.func185, Try.ntmps185
    go_wp2
    go_ret
    exact ⟨ret_bool (by rw [e.out, h1']; rfl), rfl⟩

set_option maxHeartbeats 400000 in
theorem firstYes (b off j : Nat) (w : World) (hj : j < 4) (hc : w.cell? ⟨b, off + j, none⟩ = some (.bool false)) (hf : w.frozen? ⟨b, off + j, none⟩ = false) :
    Calls Try.prog 186 #[.pointer (some ⟨b, off, none⟩), .int .i64 j] w fun e w' => e = .returned (.bool true) ∧ w' = w.setCell ⟨b, off + j, none⟩ (.bool true) := by
  have h1 : ¬ (4 : Int) ≤ (j : Int) := by omega
  go_enter Try.func186, Try.ntmps186
  go_wp2
  go_ret
  exact ⟨rfl, rfl⟩

set_option maxHeartbeats 400000 in
theorem firstTwice (b off j : Nat) (w : World) (hj : j < 4) (hc : w.cell? ⟨b, off + j, none⟩ = some (.bool true)) :
    Calls Try.prog 186 #[.pointer (some ⟨b, off, none⟩), .int .i64 j] w fun e w' => e = .returned (.bool false) ∧ w' = w := by
  have h1 : ¬ (4 : Int) ≤ (j : Int) := by omega
  go_enter Try.func186, Try.ntmps186
  go_wp2
  go_ret
  exact ⟨rfl, rfl⟩

set_option maxHeartbeats 400000 in
theorem firstNone (p : Option Addr) (n : Int) (w : World) (h : regOk n = false) :
    Calls Try.prog 186 #[.pointer p, .int .i64 n] w fun e w' => e = .returned (.bool false) ∧ w' = w := by
  by_cases h0 : n < 0
  · clear h
    go_enter Try.func186, Try.ntmps186
    go_wp2
    go_ret
    exact ⟨rfl, rfl⟩
  · have h4 : 4 ≤ n := by
      simp [regOk] at h
      omega
    clear h
    go_enter Try.func186, Try.ntmps186
    go_wp2
    go_ret
    exact ⟨rfl, rfl⟩

/-- Marks of boxes in memory. -/
def MarksAt (w : World) (b off : Nat) (m : Nat → Bool) : Prop := b < w.heap.size ∧ (∀ j, j < 4 → w.cell? ⟨b, off + j, none⟩ = some (.bool (m j))) ∧ (∀ o, w.frozen? ⟨b, o, none⟩ = false)

theorem MarksAt.keep {w w' : World} {b off : Nat} {m : Nat → Bool} (h : MarksAt w b off m) (hs : w.heap.size ≤ w'.heap.size) (hb : w'.heap[b]? = w.heap[b]?) : MarksAt w' b off m :=
  ⟨Nat.lt_of_lt_of_le h.1 hs, fun j hj => by rw [World.cell?_of_block (w := w) (a := ⟨b, off + j, none⟩) hb]; exact h.2.1 j hj, fun o => by rw [World.frozen?_of_block (w := w) (a := ⟨b, o, none⟩) hb]; exact h.2.2 o⟩
theorem MarksAt.alloc {w : World} {b off : Nat} {m : Nat → Bool} (h : MarksAt w b off m) (o : Obj) : MarksAt (w.alloc o) b off m :=
  h.keep (by rw [size_new]; omega) (heap_old w o b h.1)
theorem MarksAt.congr {w : World} {b off : Nat} {m m' : Nat → Bool} (h : MarksAt w b off m) (e : ∀ j, j < 4 → m j = m' j) : MarksAt w b off m' :=
  ⟨h.1, fun j hj => by rw [← e j hj]; exact h.2.1 j hj, h.2.2⟩
theorem MarksAt.set {w : World} {b off : Nat} {m : Nat → Bool} (h : MarksAt w b off m) (i : Nat) (hi : i < 4) : MarksAt (w.setCell ⟨b, off + i, none⟩ (.bool true)) b off (fun j => m j || decide (i = j)) := by
  refine ⟨by simpa [World.setCell] using h.1, fun j hj => ?_, fun o => by simpa using h.2.2 o⟩
  by_cases e : i = j
  · subst e
    rw [setCell_cell_same _ _ _ _ _ (h.2.1 i hi)]; simp
  · rw [setCell_cell_other _ _ _ _ _ (by omega), h.2.1 j hj]; simp [e]

theorem marks_new (w : World) (t : TypeId) : MarksAt (w.alloc (.cells #[.bool false, .bool false, .bool false, .bool false] t)) w.heap.size 0 (fun _ => false) := by
  refine ⟨by rw [size_new]; omega, fun j hj => ?_, fun o => frozen_heap (heap_new _ _) o⟩
  rw [cell_heap (heap_new _ _)]
  match j, hj with
  | 0, _ | 1, _ | 2, _ | 3, _ => rfl

theorem regOk_nat {n : Int} (h : regOk n = true) : ∃ j : Nat, j < 4 ∧ n = j := by
  simp [regOk] at h
  exact ⟨n.toNat, by omega, by omega⟩
theorem regOk_of (j : Nat) (h : j < 4) : regOk (j : Int) = true := by
  simp [regOk]; omega

theorem seen_step {xs : List P2} {k j : Nat} (h : k < xs.length) (hj : (xs.getD k (0, 0)).1 = (j : Int)) (i : Nat) : seen xs (k + 1) i = (seen xs k i || decide (j = i)) := by
  rw [seen_succ _ _ _ h, hj]
  congr 1
  rw [Bool.eq_iff_iff]; simp only [beq_iff_eq, decide_eq_true_eq]; omega

set_option maxRecDepth 100000 in
set_option maxHeartbeats 1000000 in
theorem readsOkC (a : Option Addr) (c : Nat) (xs : List P2) (w : World) (h : Sl w a xs) (hn : xs.length ≤ 2 ^ 40) :
    Calls Try.prog 183 #[.slice a xs.length c] w fun e w' => e = .returned (.bool (okAll verOk xs)) ∧ Below w.heap.size w w' := by
  have H1 : Hid (Sl w a xs) := h
  clear h
  go_enter Try.func183, Try.ntmps183
  go_wp2
  go_loopw [8] (fun i wr => ∃ k : Nat, k ≤ xs.length ∧ i = .int .i64 k ∧ Hid (∀ i, i < k → okAt verOk xs i = true) ∧ MarksAt wr w.heap.size 0 (seen xs k) ∧ Below w.heap.size w wr) (fun i _ => xs.length - (intOf i).toNat)
  case atStart => exact ⟨0, Nat.zero_le _, rfl, fun i hi => by omega, (marks_new w _).congr fun j _ => (seen_zero xs j).symm, (Below.refl _ _).alloc (Nat.le_refl _) _⟩
  case round =>
    obtain ⟨k, hk, rfl, hA, hM, hB⟩ := hrel
    by_cases hlt : k < xs.length
    · rcases H1.out with h | ⟨b1, o1, rfl, h1⟩
      · subst h; simp at hlt
      have H1' : Hid (BoxAt w b1 o1 xs) := h1
      clear h1
      obtain ⟨p, hp⟩ : ∃ p, p = xs.getD k (0, 0) := ⟨_, rfl⟩
      obtain ⟨ca, cb⟩ := H1'.out.2 k hlt
      rw [← hB.cell H1'.out.1, ← hp] at ca cb
      have HP : Hid (p = xs.getD k (0, 0)) := hp
      have HB : Hid (Below w.heap.size w wr) := hB
      have HM : Hid (MarksAt wr w.heap.size 0 (seen xs k)) := hM
      clear hp hB hM
      obtain ⟨p1, p2⟩ := p
      have F : Hid (okAt verOk xs k = false → okAll verOk xs = false) := fun t => okAll_false hlt t
      have HBa : ∀ o, Hid (Below w.heap.size w (wr.alloc o)) := fun o => HB.out.alloc HB.out.size _
      cases hr : regOk p1 with
      | false =>
        have F' : Hid (okAll verOk xs = false) := F.out (by unfold okAt; rw [← HP.out]; simp only [hr, Bool.false_and])
        have HR : Hid (regOk p1 = false) := hr
        clear F hr
        go_wp2_with fail
        refine (firstNone _ p1 _ HR.out).mono ?_
        rintro e w1 ⟨rfl, rfl⟩
        go_wp2
        go_ret
        exact ⟨ret_bool F'.out.symm, (HBa _).out⟩
      | true =>
        obtain ⟨j, hj, rfl⟩ := regOk_nat hr
        clear hr
        have HJ : Hid ((xs.getD k (0, 0)).1 = (j : Int)) := by show _ = _; rw [← HP.out]
        have HS : Hid (okAt verOk xs k = (regOk (j : Int) && verOk p2 && !seen xs k j)) := by
          show _ = _
          rw [okAt_seen verOk xs k j HJ.out, ← HP.out]
        cases hs : seen xs k j with
        | true =>
          have F' : Hid (okAll verOk xs = false) := F.out (by rw [HS.out, hs]; simp)
          have hc : Hid (∀ o, (wr.alloc o).cell? ⟨w.heap.size, 0 + j, none⟩ = some (.bool true)) := fun o => by
            have := (HM.out.alloc o).2.1 j hj
            rw [hs] at this; exact this
          clear F hs
          go_wp2_with fail
          refine (firstTwice w.heap.size 0 j _ hj (hc.out _)).mono ?_
          rintro e w1 ⟨rfl, rfl⟩
          go_wp2
          go_ret
          exact ⟨ret_bool F'.out.symm, (HBa _).out⟩
        | false =>
          have hc : Hid (∀ o, (wr.alloc o).cell? ⟨w.heap.size, 0 + j, none⟩ = some (.bool false) ∧ (wr.alloc o).frozen? ⟨w.heap.size, 0 + j, none⟩ = false) := fun o => by
            have := (HM.out.alloc o).2.1 j hj
            rw [hs] at this; exact ⟨this, (HM.out.alloc o).2.2 _⟩
          have HS' : Hid (seen xs k j = false) := hs
          clear hs
          have AF : Hid (∀ w1, w1 = (wr.alloc (.cells #[.int .i64 (j : Int), .int .i64 p2] 160)).setCell ⟨w.heap.size, 0 + j, none⟩ (.bool true) → w1.cell? ⟨wr.heap.size, 1, none⟩ = some (.int .i64 p2) ∧ Hid (MarksAt w1 w.heap.size 0 (seen xs (k + 1))) ∧ Hid (Below w.heap.size w w1)) := by
            intro w1 hw
            have hsz : w.heap.size < wr.heap.size := HM.out.1
            refine ⟨?_, ?_, ?_⟩
            · rw [hw, World.cell?_setCell_other _ _ _ _ (by intro e; injection e with e1; omega), cell_heap (heap_new _ _)]; rfl
            · rw [hw]; exact ((HM.out.alloc _).set j hj).congr fun i hi => (seen_step hlt HJ.out i).symm
            · rw [hw]; exact (HBa _).out.setCell (Nat.le_refl _) _
          by_cases t1 : p2 < 0
          · have F' : Hid (okAll verOk xs = false) := F.out (by rw [HS.out]; simp [verOk]; omega)
            clear F
            go_wp2_with fail
            refine (firstYes w.heap.size 0 j _ hj (hc.out _).1 (hc.out _).2).mono ?_
            rintro e w1 ⟨rfl, hw⟩
            obtain ⟨c1, M1, B1⟩ := AF.out w1 hw
            clear hw AF
            go_wp2
            go_ret
            exact ⟨ret_bool F'.out.symm, B1.out⟩
          · by_cases t2 : 1000000 < p2
            · have F' : Hid (okAll verOk xs = false) := F.out (by rw [HS.out]; simp [verOk]; omega)
              clear F
              go_wp2_with fail
              refine (firstYes w.heap.size 0 j _ hj (hc.out _).1 (hc.out _).2).mono ?_
              rintro e w1 ⟨rfl, hw⟩
              obtain ⟨c1, M1, B1⟩ := AF.out w1 hw
              clear hw AF
              go_wp2
              go_ret
              exact ⟨ret_bool F'.out.symm, B1.out⟩
            · have N : Hid (∀ i, i < k + 1 → okAt verOk xs i = true) := by
                intro i hi
                by_cases e : i = k
                · subst e
                  rw [HS.out, HS'.out, regOk_of j hj]; simp [verOk]; omega
                · exact hA.out i (by omega)
              clear F
              go_wp2_with fail
              refine (firstYes w.heap.size 0 j _ hj (hc.out _).1 (hc.out _).2).mono ?_
              rintro e w1 ⟨rfl, hw⟩
              obtain ⟨c1, M1, B1⟩ := AF.out w1 hw
              clear hw AF
              go_wp2
              go_roundw
              case rel => exact ⟨k + 1, by omega, by go_num, N, M1.out, B1.out⟩
              case measure => simp [intOf]; omega
    · go_wp2
      go_ret
      have : k = xs.length := by omega
      subst this
      exact ⟨ret_bool (okAll_iff.2 hA.out).symm, hB⟩
end Go.Proofs.Ytbbbfnfpmaogoaa.Own
