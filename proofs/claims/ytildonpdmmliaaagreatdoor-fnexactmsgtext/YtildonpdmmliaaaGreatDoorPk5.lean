/-
  Own texts, bundled: EntLikeI, ExecOkI, ExecOkI2, EntOkI, BalB, AccMath, MsgMath, EntOkC.
-/
import Derived.Test.YtildonpdmmliaaaGreatDoorPk4
import Derived.Test.YtildonpdmmliaaaGreatDoorPk2
import Derived.Test.YtildonpdmmliaaaGreatDoorPk1
import Derived.Test.YtildonpdmmliaaaGreatDoorPk3
namespace Go.Proofs.YtildonpdmmliaaaGreatDoor.Own
open Go.RowKit
set_option linter.unusedVariables false
set_option linter.unusedSimpArgs false

set_option maxRecDepth 100000 in
set_option maxHeartbeats 1000000 in
theorem implCertLike (n n' : Bool) (p q p' q' : Int) (a1 a2 b1 b2 : Option Addr) (c1 c2 d1 d2 : Nat) (xs ys zs us : List P2) (v k v' k' : Int) (w : World) (h1 : Sl w a1 xs) (h2 : Sl w a2 ys) (h3 : Sl w b1 zs) (h4 : Sl w b2 us)
    (n1 : xs.length ≤ 2 ^ 40) (n2 : ys.length ≤ 2 ^ 40) (n3 : zs.length ≤ 2 ^ 40) (n4 : us.length ≤ 2 ^ 40) :
    Calls Tryz.prog 65 #[.agg #[.bool n, .int .i64 p, .int .i64 q, .slice a1 xs.length c1, .slice a2 ys.length c2, .int .i64 v, .int .i64 k], .agg #[.bool n', .int .i64 p', .int .i64 q', .slice b1 zs.length d1, .slice b2 us.length d2, .int .i64 v', .int .i64 k']] w fun e w' => e = .returned (.bool (likeE n n' (p, q) (p', q') xs ys zs us v k v' k')) ∧ Below w.heap.size w w' := by
  have H1 : Hid (Sl w a1 xs) := h1
  have H2 : Hid (Sl w a2 ys) := h2
  have H3 : Hid (Sl w b1 zs) := h3
  have H4 : Hid (Sl w b2 us) := h4
  clear h1 h2 h3 h4
  obtain ⟨W, hW⟩ : ∃ W, W = (w.alloc (.cells #[.bool n, .int .i64 p, .int .i64 q, .slice a1 xs.length c1, .slice a2 ys.length c2, .int .i64 v, .int .i64 k] 41)).alloc (.cells #[.bool n', .int .i64 p', .int .i64 q', .slice b1 zs.length d1, .slice b2 us.length d2, .int .i64 v', .int .i64 k'] 41) := ⟨_, rfl⟩
  have BW : Hid (Below w.heap.size w W) := by
    show Below _ _ _
    rw [hW]; exact ((Below.refl _ _).alloc (Nat.le_refl _) _).alloc (by simp) _
  have HW : Hid (W = _) := hW
  clear hW
  have hq := fun w => eqlReq p q p' q' w
  cases hn : (n == n') with
  | false =>
    have F : Hid (likeE n n' (p, q) (p', q') xs ys zs us v k v' k' = false) := likeE_none _ _ _ _ _ _ _ _ _ _ hn
    go_enter Tryz.func65, Tryz.ntmps65
    go_wp2_with fail
    go_ret
    exact ⟨ret_bool F.out.symm, by rw [← HW.out]; exact BW.out⟩
  | true =>
    cases he : eq2 (p, q) (p', q') with
    | false =>
      have F : Hid (likeE n n' (p, q) (p', q') xs ys zs us v k v' k' = false) := likeE_req _ _ _ _ _ _ _ _ he
      rw [he] at hq
      go_enter Tryz.func65, Tryz.ntmps65
      go_wp2_with fail
      go_ret
      exact ⟨ret_bool F.out.symm, by rw [← HW.out]; exact BW.out⟩
    | true =>
      have F : Hid (likeE n n' (p, q) (p', q') xs ys zs us v k v' k' = sameRun xs ys zs us v k v' k') := likeE_run _ _ _ _ _ _ _ _ hn he
      rw [he] at hq
      go_enter Tryz.func65, Tryz.ntmps65
      go_wp2_with fail
      rw [← HW.out]
      refine (implExecSame a1 a2 b1 b2 c1 c2 d1 d2 xs ys zs us v k v' k' W (H1.out.below BW.out) (H2.out.below BW.out) (H3.out.below BW.out) (H4.out.below BW.out) n1 n2 n3 n4).mono ?_
      rintro e w1 ⟨rfl, b1'⟩
      have B1 : Hid (Below w.heap.size w w1) := BW.out.trans (b1'.mono BW.out.size)
      clear b1'
      generalize sameRun xs ys zs us v k v' k' = r at F
      go_wp2_with fail
      go_ret
      exact ⟨ret_bool F.out.symm, B1.out⟩
end Go.Proofs.YtildonpdmmliaaaGreatDoor.Own

namespace Go.Proofs.YtildonpdmmliaaaGreatDoor.Own
open Go.RowKit
set_option linter.unusedVariables false
set_option linter.unusedSimpArgs false

set_option maxHeartbeats 400000 in
theorem isNumberC (n : Int) (w : World) : Calls Tryz.prog 120 #[.int .i64 n] w fun e w' => e = .returned (.bool (numOk n)) ∧ w' = w := by
  have e : Hid (numOk n = (decide (-1000000 ≤ n) && decide (n ≤ 1000000))) := rfl
  by_cases h1 : -1000000 ≤ n
  · by_cases h2 : n ≤ 1000000
    all_goals
      go_enter Tryz.func120, Tryz.ntmps120
      go_wp2
      go_ret
      exact ⟨ret_bool (by rw [e.out]; simp [h1, h2]), rfl⟩
  · have h1' : decide (-1000000 ≤ n) = false := by simpa using h1
    go_enter Tryz.func120, Tryz.ntmps120
    go_wp2
    go_ret
    exact ⟨ret_bool (by rw [e.out, h1']; rfl), rfl⟩

set_option maxHeartbeats 400000 in
theorem firstYes (b off j : Nat) (w : World) (hj : j < 4) (hc : w.cell? ⟨b, off + j, none⟩ = some (.bool false)) (hf : w.frozen? ⟨b, off + j, none⟩ = false) :
    Calls Tryz.prog 121 #[.pointer (some ⟨b, off, none⟩), .int .i64 j] w fun e w' => e = .returned (.bool true) ∧ w' = w.setCell ⟨b, off + j, none⟩ (.bool true) := by
  have h1 : ¬ (4 : Int) ≤ (j : Int) := by omega
  go_enter Tryz.func121, Tryz.ntmps121
  go_wp2
  go_ret
  exact ⟨rfl, rfl⟩

set_option maxHeartbeats 400000 in
theorem firstTwice (b off j : Nat) (w : World) (hj : j < 4) (hc : w.cell? ⟨b, off + j, none⟩ = some (.bool true)) :
    Calls Tryz.prog 121 #[.pointer (some ⟨b, off, none⟩), .int .i64 j] w fun e w' => e = .returned (.bool false) ∧ w' = w := by
  have h1 : ¬ (4 : Int) ≤ (j : Int) := by omega
  go_enter Tryz.func121, Tryz.ntmps121
  go_wp2
  go_ret
  exact ⟨rfl, rfl⟩

set_option maxHeartbeats 400000 in
theorem firstNone (p : Option Addr) (n : Int) (w : World) (h : regOk n = false) :
    Calls Tryz.prog 121 #[.pointer p, .int .i64 n] w fun e w' => e = .returned (.bool false) ∧ w' = w := by
  by_cases h0 : n < 0
  · clear h
    go_enter Tryz.func121, Tryz.ntmps121
    go_wp2
    go_ret
    exact ⟨rfl, rfl⟩
  · have h4 : 4 ≤ n := by
      simp [regOk] at h
      omega
    clear h
    go_enter Tryz.func121, Tryz.ntmps121
    go_wp2
    go_ret
    exact ⟨rfl, rfl⟩

/-- Marks of boxes in memory. -/
def MarksAt (w : World) (b off : Nat) (m : Nat → Bool) : Prop := b < w.heap.size ∧ (∀ j, j < 4 → w.cell? ⟨b, off + j, none⟩ = some (.bool (m j))) ∧ (∀ o, w.frozen? ⟨b, o, none⟩ = false)

theorem MarksAt.keep {w w' : World} {b off : Nat} {m : Nat → Bool} (h : MarksAt w b off m) (hs : w.heap.size ≤ w'.heap.size) (hb : w'.heap[b]? = w.heap[b]?) : MarksAt w' b off m :=
  ⟨Nat.lt_of_lt_of_le h.1 hs, fun j hj => by rw [World.cell?_of_block (w := w) (a := ⟨b, off + j, none⟩) hb]; exact h.2.1 j hj, fun o => by rw [World.frozen?_of_block (w := w) (a := ⟨b, o, none⟩) hb]; exact h.2.2 o⟩
theorem MarksAt.alloc {w : World} {b off : Nat} {m : Nat → Bool} (h : MarksAt w b off m) (o : Obj) : MarksAt (w.alloc o) b off m :=
  h.keep (by rw [size_new]; omega) (heap_old w o b h.1)
theorem MarksAt.congr {w : World} {b off : Nat} {m m' : Nat → Bool} (h : MarksAt w b off m) (e : ∀ j, j < 4 → m j = m' j) : MarksAt w b off m' :=
  ⟨h.1, fun j hj => by rw [← e j hj]; exact h.2.1 j hj, h.2.2⟩
theorem MarksAt.set {w : World} {b off : Nat} {m : Nat → Bool} (h : MarksAt w b off m) (i : Nat) (hi : i < 4) : MarksAt (w.setCell ⟨b, off + i, none⟩ (.bool true)) b off (fun j => m j || decide (i = j)) := by
  refine ⟨by simpa [World.setCell] using h.1, fun j hj => ?_, fun o => by simpa using h.2.2 o⟩
  by_cases e : i = j
  · subst e
    rw [setCell_cell_same _ _ _ _ _ (h.2.1 i hi)]; simp
  · rw [setCell_cell_other _ _ _ _ _ (by omega), h.2.1 j hj]; simp [e]

theorem marks_new (w : World) (t : TypeId) : MarksAt (w.alloc (.cells #[.bool false, .bool false, .bool false, .bool false] t)) w.heap.size 0 (fun _ => false) := by
  refine ⟨by rw [size_new]; omega, fun j hj => ?_, fun o => frozen_heap (heap_new _ _) o⟩
  rw [cell_heap (heap_new _ _)]
  match j, hj with
  | 0, _ | 1, _ | 2, _ | 3, _ => rfl

theorem regOk_nat {n : Int} (h : regOk n = true) : ∃ j : Nat, j < 4 ∧ n = j := by
  simp [regOk] at h
  exact ⟨n.toNat, by omega, by omega⟩
theorem regOk_of (j : Nat) (h : j < 4) : regOk (j : Int) = true := by
  simp [regOk]; omega

theorem seen_step {xs : List P2} {k j : Nat} (h : k < xs.length) (hj : (xs.getD k (0, 0)).1 = (j : Int)) (i : Nat) : seen xs (k + 1) i = (seen xs k i || decide (j = i)) := by
  rw [seen_succ _ _ _ h, hj]
  congr 1
  rw [Bool.eq_iff_iff]; simp only [beq_iff_eq, decide_eq_true_eq]; omega

set_option maxRecDepth 100000 in
set_option maxHeartbeats 1000000 in
theorem readsOkC (a : Option Addr) (c : Nat) (xs : List P2) (w : World) (h : Sl w a xs) (hn : xs.length ≤ 2 ^ 40) :
    Calls Tryz.prog 118 #[.slice a xs.length c] w fun e w' => e = .returned (.bool (okAll verOk xs)) ∧ Below w.heap.size w w' := by
  have H1 : Hid (Sl w a xs) := h
  clear h
  go_enter Tryz.func118, Tryz.ntmps118
  go_wp2
  go_loopw [8] (fun i wr => ∃ k : Nat, k ≤ xs.length ∧ i = .int .i64 k ∧ Hid (∀ i, i < k → okAt verOk xs i = true) ∧ MarksAt wr w.heap.size 0 (seen xs k) ∧ Below w.heap.size w wr) (fun i _ => xs.length - (intOf i).toNat)
  case atStart => exact ⟨0, Nat.zero_le _, rfl, fun i hi => by omega, (marks_new w _).congr fun j _ => (seen_zero xs j).symm, (Below.refl _ _).alloc (Nat.le_refl _) _⟩
  case round =>
    obtain ⟨k, hk, rfl, hA, hM, hB⟩ := hrel
    by_cases hlt : k < xs.length
    · rcases H1.out with h | ⟨b1, o1, rfl, h1⟩
      · subst h; simp at hlt
      have H1' : Hid (BoxAt w b1 o1 xs) := h1
      clear h1
      obtain ⟨p, hp⟩ : ∃ p, p = xs.getD k (0, 0) := ⟨_, rfl⟩
      obtain ⟨ca, cb⟩ := H1'.out.2 k hlt
      rw [← hB.cell H1'.out.1, ← hp] at ca cb
      have HP : Hid (p = xs.getD k (0, 0)) := hp
      have HB : Hid (Below w.heap.size w wr) := hB
      have HM : Hid (MarksAt wr w.heap.size 0 (seen xs k)) := hM
      clear hp hB hM
      obtain ⟨p1, p2⟩ := p
      have F : Hid (okAt verOk xs k = false → okAll verOk xs = false) := fun t => okAll_false hlt t
      have HBa : ∀ o, Hid (Below w.heap.size w (wr.alloc o)) := fun o => HB.out.alloc HB.out.size _
      cases hr : regOk p1 with
      | false =>
        have F' : Hid (okAll verOk xs = false) := F.out (by unfold okAt; rw [← HP.out]; simp only [hr, Bool.false_and])
        have HR : Hid (regOk p1 = false) := hr
        clear F hr
        go_wp2_with fail
        refine (firstNone _ p1 _ HR.out).mono ?_
        rintro e w1 ⟨rfl, rfl⟩
        go_wp2
        go_ret
        exact ⟨ret_bool F'.out.symm, (HBa _).out⟩
      | true =>
        obtain ⟨j, hj, rfl⟩ := regOk_nat hr
        clear hr
        have HJ : Hid ((xs.getD k (0, 0)).1 = (j : Int)) := by show _ = _; rw [← HP.out]
        have HS : Hid (okAt verOk xs k = (regOk (j : Int) && verOk p2 && !seen xs k j)) := by
          show _ = _
          rw [okAt_seen verOk xs k j HJ.out, ← HP.out]
        cases hs : seen xs k j with
        | true =>
          have F' : Hid (okAll verOk xs = false) := F.out (by rw [HS.out, hs]; simp)
          have hc : Hid (∀ o, (wr.alloc o).cell? ⟨w.heap.size, 0 + j, none⟩ = some (.bool true)) := fun o => by
            have := (HM.out.alloc o).2.1 j hj
            rw [hs] at this; exact this
          clear F hs
          go_wp2_with fail
          refine (firstTwice w.heap.size 0 j _ hj (hc.out _)).mono ?_
          rintro e w1 ⟨rfl, rfl⟩
          go_wp2
          go_ret
          exact ⟨ret_bool F'.out.symm, (HBa _).out⟩
        | false =>
          have hc : Hid (∀ o, (wr.alloc o).cell? ⟨w.heap.size, 0 + j, none⟩ = some (.bool false) ∧ (wr.alloc o).frozen? ⟨w.heap.size, 0 + j, none⟩ = false) := fun o => by
            have := (HM.out.alloc o).2.1 j hj
            rw [hs] at this; exact ⟨this, (HM.out.alloc o).2.2 _⟩
          have HS' : Hid (seen xs k j = false) := hs
          clear hs
          have AF : Hid (∀ w1, w1 = (wr.alloc (.cells #[.int .i64 (j : Int), .int .i64 p2] 81)).setCell ⟨w.heap.size, 0 + j, none⟩ (.bool true) → w1.cell? ⟨wr.heap.size, 1, none⟩ = some (.int .i64 p2) ∧ Hid (MarksAt w1 w.heap.size 0 (seen xs (k + 1))) ∧ Hid (Below w.heap.size w w1)) := by
            intro w1 hw
            have hsz : w.heap.size < wr.heap.size := HM.out.1
            refine ⟨?_, ?_, ?_⟩
            · rw [hw, World.cell?_setCell_other _ _ _ _ (by intro e; injection e with e1; omega), cell_heap (heap_new _ _)]; rfl
            · rw [hw]; exact ((HM.out.alloc _).set j hj).congr fun i hi => (seen_step hlt HJ.out i).symm
            · rw [hw]; exact (HBa _).out.setCell (Nat.le_refl _) _
          by_cases t1 : p2 < 0
          · have F' : Hid (okAll verOk xs = false) := F.out (by rw [HS.out]; simp [verOk]; omega)
            clear F
            go_wp2_with fail
            refine (firstYes w.heap.size 0 j _ hj (hc.out _).1 (hc.out _).2).mono ?_
            rintro e w1 ⟨rfl, hw⟩
            obtain ⟨c1, M1, B1⟩ := AF.out w1 hw
            clear hw AF
            go_wp2
            go_ret
            exact ⟨ret_bool F'.out.symm, B1.out⟩
          · by_cases t2 : 1000000 < p2
            · have F' : Hid (okAll verOk xs = false) := F.out (by rw [HS.out]; simp [verOk]; omega)
              clear F
              go_wp2_with fail
              refine (firstYes w.heap.size 0 j _ hj (hc.out _).1 (hc.out _).2).mono ?_
              rintro e w1 ⟨rfl, hw⟩
              obtain ⟨c1, M1, B1⟩ := AF.out w1 hw
              clear hw AF
              go_wp2
              go_ret
              exact ⟨ret_bool F'.out.symm, B1.out⟩
            · have N : Hid (∀ i, i < k + 1 → okAt verOk xs i = true) := by
                intro i hi
                by_cases e : i = k
                · subst e
                  rw [HS.out, HS'.out, regOk_of j hj]; simp [verOk]; omega
                · exact hA.out i (by omega)
              clear F
              go_wp2_with fail
              refine (firstYes w.heap.size 0 j _ hj (hc.out _).1 (hc.out _).2).mono ?_
              rintro e w1 ⟨rfl, hw⟩
              obtain ⟨c1, M1, B1⟩ := AF.out w1 hw
              clear hw AF
              go_wp2
              go_roundw
              case rel => exact ⟨k + 1, by omega, by go_num, N, M1.out, B1.out⟩
              case measure => simp [intOf]; omega
    · go_wp2
      go_ret
      have : k = xs.length := by omega
      subst this
      exact ⟨ret_bool (okAll_iff.2 hA.out).symm, hB⟩
end Go.Proofs.YtildonpdmmliaaaGreatDoor.Own

namespace Go.Proofs.YtildonpdmmliaaaGreatDoor.Own
open Go.RowKit
set_option linter.unusedVariables false
set_option linter.unusedSimpArgs false

set_option maxRecDepth 100000 in
set_option maxHeartbeats 1000000 in
theorem putsOkC (a : Option Addr) (c : Nat) (xs : List P2) (w : World) (h : Sl w a xs) (hn : xs.length ≤ 2 ^ 40) :
    Calls Tryz.prog 119 #[.slice a xs.length c] w fun e w' => e = .returned (.bool (okAll numOk xs)) ∧ Below w.heap.size w w' := by
  have H1 : Hid (Sl w a xs) := h
  clear h
  go_enter Tryz.func119, Tryz.ntmps119
  go_wp2
  go_loopw [8] (fun i wr => ∃ k : Nat, k ≤ xs.length ∧ i = .int .i64 k ∧ Hid (∀ i, i < k → okAt numOk xs i = true) ∧ MarksAt wr w.heap.size 0 (seen xs k) ∧ Below w.heap.size w wr) (fun i _ => xs.length - (intOf i).toNat)
  case atStart => exact ⟨0, Nat.zero_le _, rfl, fun i hi => by omega, (marks_new w _).congr fun j _ => (seen_zero xs j).symm, (Below.refl _ _).alloc (Nat.le_refl _) _⟩
  case round =>
    obtain ⟨k, hk, rfl, hA, hM, hB⟩ := hrel
    by_cases hlt : k < xs.length
    · rcases H1.out with h | ⟨b1, o1, rfl, h1⟩
      · subst h; simp at hlt
      have H1' : Hid (BoxAt w b1 o1 xs) := h1
      clear h1
      obtain ⟨p, hp⟩ : ∃ p, p = xs.getD k (0, 0) := ⟨_, rfl⟩
      obtain ⟨ca, cb⟩ := H1'.out.2 k hlt
      rw [← hB.cell H1'.out.1, ← hp] at ca cb
      have HP : Hid (p = xs.getD k (0, 0)) := hp
      have HB : Hid (Below w.heap.size w wr) := hB
      have HM : Hid (MarksAt wr w.heap.size 0 (seen xs k)) := hM
      clear hp hB hM
      obtain ⟨p1, p2⟩ := p
      have F : Hid (okAt numOk xs k = false → okAll numOk xs = false) := fun t => okAll_false hlt t
      have HBa : ∀ o, Hid (Below w.heap.size w (wr.alloc o)) := fun o => HB.out.alloc HB.out.size _
      cases hr : regOk p1 with
      | false =>
        have F' : Hid (okAll numOk xs = false) := F.out (by unfold okAt; rw [← HP.out]; simp only [hr, Bool.false_and])
        have HR : Hid (regOk p1 = false) := hr
        clear F hr
        go_wp2_with fail
        refine (firstNone _ p1 _ HR.out).mono ?_
        rintro e w1 ⟨rfl, rfl⟩
        go_wp2
        go_ret
        exact ⟨ret_bool F'.out.symm, (HBa _).out⟩
      | true =>
        obtain ⟨j, hj, rfl⟩ := regOk_nat hr
        clear hr
        have HJ : Hid ((xs.getD k (0, 0)).1 = (j : Int)) := by show _ = _; rw [← HP.out]
        have HS : Hid (okAt numOk xs k = (regOk (j : Int) && numOk p2 && !seen xs k j)) := by
          show _ = _
          rw [okAt_seen numOk xs k j HJ.out, ← HP.out]
        cases hs : seen xs k j with
        | true =>
          have F' : Hid (okAll numOk xs = false) := F.out (by rw [HS.out, hs]; simp)
          have hc : Hid (∀ o, (wr.alloc o).cell? ⟨w.heap.size, 0 + j, none⟩ = some (.bool true)) := fun o => by
            have := (HM.out.alloc o).2.1 j hj
            rw [hs] at this; exact this
          clear F hs
          go_wp2_with fail
          refine (firstTwice w.heap.size 0 j _ hj (hc.out _)).mono ?_
          rintro e w1 ⟨rfl, rfl⟩
          go_wp2
          go_ret
          exact ⟨ret_bool F'.out.symm, (HBa _).out⟩
        | false =>
          have hc : Hid (∀ o, (wr.alloc o).cell? ⟨w.heap.size, 0 + j, none⟩ = some (.bool false) ∧ (wr.alloc o).frozen? ⟨w.heap.size, 0 + j, none⟩ = false) := fun o => by
            have := (HM.out.alloc o).2.1 j hj
            rw [hs] at this; exact ⟨this, (HM.out.alloc o).2.2 _⟩
          have HS' : Hid (seen xs k j = false) := hs
          clear hs
          have AF : Hid (∀ w1, w1 = (wr.alloc (.cells #[.int .i64 (j : Int), .int .i64 p2] 83)).setCell ⟨w.heap.size, 0 + j, none⟩ (.bool true) → w1.cell? ⟨wr.heap.size, 1, none⟩ = some (.int .i64 p2) ∧ Hid (MarksAt w1 w.heap.size 0 (seen xs (k + 1))) ∧ Hid (Below w.heap.size w w1)) := by
            intro w1 hw
            have hsz : w.heap.size < wr.heap.size := HM.out.1
            refine ⟨?_, ?_, ?_⟩
            · rw [hw, World.cell?_setCell_other _ _ _ _ (by intro e; injection e with e1; omega), cell_heap (heap_new _ _)]; rfl
            · rw [hw]; exact ((HM.out.alloc _).set j hj).congr fun i hi => (seen_step hlt HJ.out i).symm
            · rw [hw]; exact (HBa _).out.setCell (Nat.le_refl _) _
          cases t1 : numOk p2 with
          | false =>
            have F' : Hid (okAll numOk xs = false) := F.out (by rw [HS.out, t1]; simp)
            clear F
            go_wp2_with fail
            refine (firstYes w.heap.size 0 j _ hj (hc.out _).1 (hc.out _).2).mono ?_
            rintro e w1 ⟨rfl, hw⟩
            obtain ⟨c1, M1, B1⟩ := AF.out w1 hw
            clear hw AF
            go_wp2_with fail
            refine (isNumberC p2 _).mono ?_
            rintro e w2 ⟨rfl, rfl⟩
            rw [t1]
            go_wp2
            go_ret
            exact ⟨ret_bool F'.out.symm, B1.out⟩
          | true =>
            have N : Hid (∀ i, i < k + 1 → okAt numOk xs i = true) := by
              intro i hi
              by_cases e : i = k
              · subst e
                rw [HS.out, HS'.out, regOk_of j hj, t1]; rfl
              · exact hA.out i (by omega)
            clear F
            go_wp2_with fail
            refine (firstYes w.heap.size 0 j _ hj (hc.out _).1 (hc.out _).2).mono ?_
            rintro e w1 ⟨rfl, hw⟩
            obtain ⟨c1, M1, B1⟩ := AF.out w1 hw
            clear hw AF
            go_wp2_with fail
            refine (isNumberC p2 _).mono ?_
            rintro e w2 ⟨rfl, rfl⟩
            rw [t1]
            go_wp2
            go_roundw
            case rel => exact ⟨k + 1, by omega, by go_num, N, M1.out, B1.out⟩
            case measure => simp [intOf]; omega
    · go_wp2
      go_ret
      have : k = xs.length := by omega
      subst this
      exact ⟨ret_bool (okAll_iff.2 hA.out).symm, hB⟩

set_option maxRecDepth 100000 in
set_option maxHeartbeats 1000000 in
theorem endOkC (a1 a2 : Option Addr) (n1 c1 n2 c2 : Nat) (v k : Int) (w : World) :
    Calls Tryz.prog 108 #[.agg #[.slice a1 n1 c1, .slice a2 n2 c2, .int .i64 v, .int .i64 k]] w fun e w' => e = .returned (.bool (endOk k v n1 n2)) ∧ Below w.heap.size w w' := by
  by_cases h0 : k = 0
  · subst h0
    rw [endOk_0]
    go_enter Tryz.func108, Tryz.ntmps108
    go_wp2_with fail
    refine (isNumberC v _).mono ?_
    rintro e w2 ⟨rfl, rfl⟩
    go_wp2
    go_ret
    exact ⟨rfl, (Below.refl _ _).alloc (Nat.le_refl _) _⟩
  by_cases h1 : k = 1
  · subst h1
    rw [endOk_1]
    cases hv : (v == 0) with
    | false =>
      go_enter Tryz.func108, Tryz.ntmps108
      go_wp2
      go_ret
      exact ⟨rfl, (Below.refl _ _).alloc (Nat.le_refl _) _⟩
    | true =>
      have E : Hid (decide (n2 = 0) = ((n2 : Int) == 0)) := by show _ = _; rw [Bool.eq_iff_iff]; simp
      go_enter Tryz.func108, Tryz.ntmps108
      go_wp2
      go_ret
      exact ⟨ret_bool (by rw [E.out]; simp), (Below.refl _ _).alloc (Nat.le_refl _) _⟩
  by_cases h2 : k = 2
  · subst h2
    rw [endOk_2]
    cases hv : (v == 0) with
    | false =>
      go_enter Tryz.func108, Tryz.ntmps108
      go_wp2
      go_ret
      exact ⟨rfl, (Below.refl _ _).alloc (Nat.le_refl _) _⟩
    | true =>
      have E : Hid (decide (n2 = 0) = ((n2 : Int) == 0)) := by show _ = _; rw [Bool.eq_iff_iff]; simp
      go_enter Tryz.func108, Tryz.ntmps108
      go_wp2
      go_ret
      exact ⟨ret_bool (by rw [E.out]; simp), (Below.refl _ _).alloc (Nat.le_refl _) _⟩
  by_cases h3 : k = 3
  · subst h3
    rw [endOk_3]
    cases hv : (v == 0) with
    | false =>
      go_enter Tryz.func108, Tryz.ntmps108
      go_wp2
      go_ret
      exact ⟨rfl, (Below.refl _ _).alloc (Nat.le_refl _) _⟩
    | true =>
      have E : Hid (decide (n2 = 0) = ((n2 : Int) == 0)) := by show _ = _; rw [Bool.eq_iff_iff]; simp
      have E1 : Hid (decide (n1 = 0) = ((n1 : Int) == 0)) := by show _ = _; rw [Bool.eq_iff_iff]; simp
      cases hn : ((n2 : Int) == 0) with
      | false =>
        go_enter Tryz.func108, Tryz.ntmps108
        go_wp2
        go_ret
        exact ⟨ret_bool (by rw [E.out, hn]; simp), (Below.refl _ _).alloc (Nat.le_refl _) _⟩
      | true =>
        go_enter Tryz.func108, Tryz.ntmps108
        go_wp2
        go_ret
        exact ⟨ret_bool (by rw [E.out, E1.out, hn]; simp), (Below.refl _ _).alloc (Nat.le_refl _) _⟩
  rw [endOk_no v n1 n2 ⟨h0, h1, h2, h3⟩]
  have e0 : (k == 0) = false := by simpa using h0
  have e1 : (k == 1) = false := by simpa using h1
  have e2 : (k == 2) = false := by simpa using h2
  have e3 : (k == 3) = false := by simpa using h3
  clear h0 h1 h2 h3
  go_enter Tryz.func108, Tryz.ntmps108
  go_wp2
  go_ret
  exact ⟨rfl, (Below.refl _ _).alloc (Nat.le_refl _) _⟩

set_option maxRecDepth 100000 in
set_option maxHeartbeats 1000000 in
theorem implExecOk (a1 a2 : Option Addr) (c1 c2 : Nat) (xs ys : List P2) (v k : Int) (w : World) (h1 : Sl w a1 xs) (h2 : Sl w a2 ys) (hn1 : xs.length ≤ 2 ^ 40) (hn2 : ys.length ≤ 2 ^ 40) :
    Calls Tryz.prog 117 #[.agg #[.slice a1 xs.length c1, .slice a2 ys.length c2, .int .i64 v, .int .i64 k]] w fun e w' => e = .returned (.bool (execOk xs ys v k)) ∧ Below w.heap.size w w' := by
  have H1 : Hid (Sl w a1 xs) := h1
  have H2 : Hid (Sl w a2 ys) := h2
  clear h1 h2
  have E : Hid (execOk xs ys v k = (endOk k v xs.length ys.length && okAll verOk xs && okAll numOk ys)) := rfl
  have CE := fun W => endOkC a1 a2 xs.length c1 ys.length c2 v k W
  generalize endOk k v xs.length ys.length = r at E CE
  have CE' : Hid (∀ W, Calls Tryz.prog 108 #[.agg #[.slice a1 xs.length c1, .slice a2 ys.length c2, .int .i64 v, .int .i64 k]] W fun e w' => e = .returned (.bool r) ∧ Below W.heap.size W w') := CE
  clear CE
  have B0 : ∀ o, Hid (Below w.heap.size w (w.alloc o)) := fun o => (Below.refl _ _).alloc (Nat.le_refl _) _
  cases r with
  | false =>
    go_enter Tryz.func117, Tryz.ntmps117
    go_wp2_with fail
    refine (CE'.out _).mono ?_
    rintro e w1 ⟨rfl, b1⟩
    have B1 : Hid (Below w.heap.size w w1) := (B0 _).out.trans (b1.mono (B0 _).out.size)
    clear b1
    go_wp2
    go_ret
    exact ⟨ret_bool (by rw [E.out]; rfl), B1.out⟩
  | true =>
    go_enter Tryz.func117, Tryz.ntmps117
    go_wp2_with fail
    refine (CE'.out _).mono ?_
    rintro e w1 ⟨rfl, b1⟩
    have B1 : Hid (Below w.heap.size w w1) := (B0 _).out.trans (b1.mono (B0 _).out.size)
    have C1 : Hid (∀ o, w1.cell? ⟨w.heap.size, o, none⟩ = (#[.slice a1 xs.length c1, .slice a2 ys.length c2, .int .i64 v, .int .i64 k] : Array Value)[o]?) := fun o => by
      rw [b1.cell (p := ⟨w.heap.size, o, none⟩) (by show w.heap.size < _; rw [size_new]; omega), cell_heap (heap_new _ _)]
    have S1 : Hid (w.heap.size < w1.heap.size) := by show _ < _; have := b1.size; rw [size_new] at this; omega
    have q0 : w1.cell? ⟨w.heap.size, 0, none⟩ = some (.slice a1 xs.length c1) := C1.out 0
    clear b1
    have RC := fun W h => readsOkC a1 c1 xs W h hn1
    generalize okAll verOk xs = r2 at E RC
    have RC' : Hid (∀ W, Sl W a1 xs → Calls Tryz.prog 118 #[.slice a1 xs.length c1] W fun e w' => e = .returned (.bool r2) ∧ Below W.heap.size W w') := RC
    clear RC
    cases r2 with
    | false =>
      go_wp2_with fail
      refine (RC'.out _ (H1.out.below B1.out)).mono ?_
      rintro e w2 ⟨rfl, b2⟩
      have B2 : Hid (Below w.heap.size w w2) := B1.out.trans (b2.mono B1.out.size)
      clear b2
      go_wp2
      go_ret
      exact ⟨ret_bool (by rw [E.out]; rfl), B2.out⟩
    | true =>
      go_wp2_with fail
      refine (RC'.out _ (H1.out.below B1.out)).mono ?_
      rintro e w2 ⟨rfl, b2⟩
      have B2 : Hid (Below w.heap.size w w2) := B1.out.trans (b2.mono B1.out.size)
      have q1 : w2.cell? ⟨w.heap.size, 1, none⟩ = some (.slice a2 ys.length c2) := by rw [b2.cell (p := ⟨w.heap.size, 1, none⟩) S1.out]; exact C1.out 1
      clear b2 q0
      go_wp2_with fail
      refine (putsOkC a2 c2 ys _ (H2.out.below B2.out) hn2).mono ?_
      rintro e w3 ⟨rfl, b3⟩
      have B3 : Hid (Below w.heap.size w w3) := B2.out.trans (b3.mono B2.out.size)
      clear b3
      generalize okAll numOk ys = r3 at E
      go_wp2
      go_ret
      exact ⟨ret_bool (by rw [E.out]; rfl), B3.out⟩
end Go.Proofs.YtildonpdmmliaaaGreatDoor.Own

namespace Go.Proofs.YtildonpdmmliaaaGreatDoor.Own
open Go.RowKit
set_option linter.unusedVariables false
set_option linter.unusedSimpArgs false

/-- A request is right. -/
def reqOk (p q : Int) : Bool := decide (0 ≤ p) && decide (p < 3) && decide (1 ≤ q) && decide (q ≤ 1000)
/-- An entry is right. -/
def entOk (n : Bool) (p q : Int) (xs ys : List P2) (v k : Int) : Bool := if n then likeE n true (p, q) (0, 0) xs ys [] [] v k 0 0 else reqOk p q && execOk xs ys v k && k != 3

theorem implReqOk (p q : Int) (w : World) : Calls Tryz.prog 107 #[.agg #[.int .i64 p, .int .i64 q]] w fun e w' => e = .returned (.bool (reqOk p q)) ∧ Below w.heap.size w w' := by
  have R : Hid (reqOk p q = (decide (0 ≤ p) && decide (p < 3) && decide (1 ≤ q) && decide (q ≤ 1000))) := rfl
  have B0 : ∀ o, Hid (Below w.heap.size w (w.alloc o)) := fun o => (Below.refl _ _).alloc (Nat.le_refl _) _
  cases h1 : decide (0 ≤ p) with
  | false =>
    go_enter Tryz.func107, Tryz.ntmps107
    go_wp2
    go_ret
    exact ⟨ret_bool (by rw [R.out, h1]; rfl), (B0 _).out⟩
  | true =>
    cases h2 : decide (p < 3) with
    | false =>
      go_enter Tryz.func107, Tryz.ntmps107
      go_wp2
      go_ret
      exact ⟨ret_bool (by rw [R.out, h1, h2]; rfl), (B0 _).out⟩
    | true =>
      cases h3 : decide (1 ≤ q) with
      | false =>
        go_enter Tryz.func107, Tryz.ntmps107
        go_wp2
        go_ret
        exact ⟨ret_bool (by rw [R.out, h1, h2, h3]; rfl), (B0 _).out⟩
      | true =>
        go_enter Tryz.func107, Tryz.ntmps107
        go_wp2
        go_ret
        exact ⟨ret_bool (by rw [R.out, h1, h2, h3]; rfl), (B0 _).out⟩

theorem implEntryOf (n : Bool) (p q : Value) (s1 s2 v k : Value) (w : World) : Calls Tryz.prog 64 #[.agg #[.bool n, p, q, s1, s2, v, k]] w fun e w' => e = .returned (.iface (if n then 133 else 134) (.agg #[.bool n, p, q, s1, s2, v, k])) ∧ Below w.heap.size w w' := by
  cases n with
  | false =>
    go_enter Tryz.func64, Tryz.ntmps64
    go_wp2
    go_ret
    exact ⟨rfl, (Below.refl _ _).alloc (Nat.le_refl _) _⟩
  | true =>
    go_enter Tryz.func64, Tryz.ntmps64
    go_wp2
    go_ret
    exact ⟨rfl, (Below.refl _ _).alloc (Nat.le_refl _) _⟩

set_option maxRecDepth 100000 in
set_option maxHeartbeats 1000000 in
theorem implEmptyRight (n : Bool) (p q : Int) (a1 a2 : Option Addr) (c1 c2 : Nat) (xs ys : List P2) (v k : Int) (w : World) (h1 : Sl w a1 xs) (h2 : Sl w a2 ys) (n1 : xs.length ≤ 2 ^ 40) (n2 : ys.length ≤ 2 ^ 40) :
    Calls Tryz.prog 114 #[.agg #[.bool n, .int .i64 p, .int .i64 q, .slice a1 xs.length c1, .slice a2 ys.length c2, .int .i64 v, .int .i64 k]] w fun e w' => e = .returned (.bool (likeE n true (p, q) (0, 0) xs ys [] [] v k 0 0)) ∧ Below w.heap.size w w' := by
  have H1 : Hid (Sl w a1 xs) := h1
  have H2 : Hid (Sl w a2 ys) := h2
  clear h1 h2
  obtain ⟨W, hW⟩ : ∃ W, W = w.alloc (.cells #[.bool n, .int .i64 p, .int .i64 q, .slice a1 xs.length c1, .slice a2 ys.length c2, .int .i64 v, .int .i64 k] 133) := ⟨_, rfl⟩
  have BW : Hid (Below w.heap.size w W) := by show Below _ _ _; rw [hW]; exact (Below.refl _ _).alloc (Nat.le_refl _) _
  have HW : Hid (W = _) := hW
  clear hW
  go_enter Tryz.func114, Tryz.ntmps114
  go_wp2_with fail
  rw [← HW.out]
  refine (implCertLike n true p q 0 0 a1 a2 none none c1 c2 0 0 xs ys [] [] v k 0 0 W (H1.out.below BW.out) (H2.out.below BW.out) (.inl rfl) (.inl rfl) n1 n2 (by simp) (by simp)).mono ?_
  rintro e w1 ⟨rfl, b1⟩
  have B1 : Hid (Below w.heap.size w w1) := BW.out.trans (b1.mono BW.out.size)
  clear b1
  generalize hr : likeE n true (p, q) (0, 0) xs ys [] [] v k 0 0 = r
  have HR : Hid (_ = r) := hr
  clear hr
  go_wp2_with fail
  go_ret
  exact ⟨ret_bool HR.out.symm, B1.out⟩

set_option maxRecDepth 100000 in
set_option maxHeartbeats 1000000 in
theorem implRunRight (n : Bool) (p q : Int) (a1 a2 : Option Addr) (c1 c2 : Nat) (xs ys : List P2) (v k : Int) (w : World) (h1 : Sl w a1 xs) (h2 : Sl w a2 ys) (n1 : xs.length ≤ 2 ^ 40) (n2 : ys.length ≤ 2 ^ 40) :
    Calls Tryz.prog 116 #[.agg #[.bool n, .int .i64 p, .int .i64 q, .slice a1 xs.length c1, .slice a2 ys.length c2, .int .i64 v, .int .i64 k]] w fun e w' => e = .returned (.bool (reqOk p q && execOk xs ys v k && k != 3)) ∧ Below w.heap.size w w' := by
  have H1 : Hid (Sl w a1 xs) := h1
  have H2 : Hid (Sl w a2 ys) := h2
  clear h1 h2
  obtain ⟨W, hW⟩ : ∃ W, W = w.alloc (.cells #[.bool n, .int .i64 p, .int .i64 q, .slice a1 xs.length c1, .slice a2 ys.length c2, .int .i64 v, .int .i64 k] 134) := ⟨_, rfl⟩
  have BW : Hid (Below w.heap.size w W) := by show Below _ _ _; rw [hW]; exact (Below.refl _ _).alloc (Nat.le_refl _) _
  have G0 : Hid (Blk W w.heap.size #[.bool n, .int .i64 p, .int .i64 q, .slice a1 xs.length c1, .slice a2 ys.length c2, .int .i64 v, .int .i64 k] 134) := by show Blk _ _ _ _; rw [hW]; exact Blk.new _ _ _
  have HW : Hid (W = _) := hW
  clear hW
  obtain ⟨T, hT⟩ : ∃ T, T = (reqOk p q && execOk xs ys v k && k != 3) := ⟨_, rfl⟩
  have HT : Hid (T = (reqOk p q && execOk xs ys v k && k != 3)) := hT
  rw [← hT]
  clear hT
  go_enter Tryz.func116, Tryz.ntmps116
  go_wp2_with fail
  rw [← HW.out]
  refine (implReqOk p q W).mono ?_
  rintro e w1 ⟨rfl, b1⟩
  have B1 : Hid (Below w.heap.size w w1) := BW.out.trans (b1.mono BW.out.size)
  have D0 : Hid (Blk w1 w.heap.size _ _) := G0.out.keep b1
  obtain ⟨q0, q1, q2, q3, q4, q5, q6⟩ := D0.out.cells7
  clear b1
  generalize reqOk p q = r1 at HT ⊢
  cases r1 with
  | false =>
    have F : Hid (T = false) := by show _ = _; rw [HT.out]; rfl
    go_wp2_with fail
    go_ret
    exact ⟨ret_bool F.out.symm, B1.out⟩
  | true =>
    go_wp2_with fail
    refine (implExecOk a1 a2 c1 c2 xs ys v k w1 (H1.out.below B1.out) (H2.out.below B1.out) n1 n2).mono ?_
    rintro e w2 ⟨rfl, b2⟩
    have B2 : Hid (Below w.heap.size w w2) := B1.out.trans (b2.mono B1.out.size)
    obtain ⟨r0, r1, r2, r3, r4, r5, r6⟩ := (D0.out.keep b2).cells7
    clear b2 q0 q1 q2 q3 q4 q5 q6
    generalize execOk xs ys v k = r2' at HT ⊢
    cases r2' with
    | false =>
      have F : Hid (T = false) := by show _ = _; rw [HT.out]; rfl
      go_wp2_with fail
      go_ret
      exact ⟨ret_bool F.out.symm, B2.out⟩
    | true =>
      have F : Hid (T = (k != 3)) := by show _ = _; rw [HT.out]; rfl
      go_wp2_with fail
      go_ret
      exact ⟨ret_bool F.out.symm, B2.out⟩
end Go.Proofs.YtildonpdmmliaaaGreatDoor.Own

namespace Go.Proofs.YtildonpdmmliaaaGreatDoor.Own
open Go.RowKit
set_option linter.unusedVariables false

/-- A ballot is 1 to 3000. -/
def isBal (n : Int) : Bool := decide (1 ≤ n) && decide (n ≤ 3000)
theorem isBal_iff {n : Int} : isBal n = true ↔ 1 ≤ n ∧ n ≤ 3000 := by simp [isBal]
theorem isBal_not {n : Int} : isBal n = false ↔ (n < 1 ∨ 3000 < n) := by
  rw [← Bool.not_eq_true, isBal_iff]; omega
set_option maxRecDepth 100000 in
set_option maxHeartbeats 1000000 in
theorem implIsBallot (n : Int) (w : World) : Calls Tryz.prog 84 #[.int .i64 n] w fun e w' => e = .returned (.bool (isBal n)) ∧ w' = w := by
  by_cases h1 : 1 ≤ n
  · by_cases h2 : n ≤ 3000
    · have e : isBal n = true := isBal_iff.2 ⟨h1, h2⟩
      rw [e]
      go_enter Tryz.func84, Tryz.ntmps84
      go_wp2
      go_ret
      first | exact ⟨rfl, rfl⟩ | (refine ⟨?_, rfl⟩; simp [h1, h2])
    · have e : isBal n = false := isBal_not.2 (by omega)
      rw [e]
      go_enter Tryz.func84, Tryz.ntmps84
      go_wp2
      go_ret
      first | exact ⟨rfl, rfl⟩ | (refine ⟨?_, rfl⟩; simp [h1, h2])
  · have e : isBal n = false := isBal_not.2 (by omega)
    rw [e]
    go_enter Tryz.func84, Tryz.ntmps84
    go_wp2
    go_ret
    first | exact ⟨rfl, rfl⟩ | (refine ⟨?_, rfl⟩; simp [h1])

set_option maxRecDepth 100000 in
set_option maxHeartbeats 1000000 in
theorem specBal (n : Int) (w : World) : Calls Tryz.prog 26 #[.int .i64 n] w fun e w' => e = .returned (.bool (isBal n)) ∧ w' = w := by
  by_cases h1 : 1 ≤ n
  · by_cases h2 : n ≤ 3000
    · have e : isBal n = true := isBal_iff.2 ⟨h1, h2⟩
      rw [e]
      go_enter Tryz.func26, Tryz.ntmps26
      go_wp2
      go_ret
      first | exact ⟨rfl, rfl⟩ | (refine ⟨?_, rfl⟩; simp [h1, h2])
    · have e : isBal n = false := isBal_not.2 (by omega)
      rw [e]
      go_enter Tryz.func26, Tryz.ntmps26
      go_wp2
      go_ret
      first | exact ⟨rfl, rfl⟩ | (refine ⟨?_, rfl⟩; simp [h1, h2])
  · have e : isBal n = false := isBal_not.2 (by omega)
    rw [e]
    go_enter Tryz.func26, Tryz.ntmps26
    go_wp2
    go_ret
    first | exact ⟨rfl, rfl⟩ | (refine ⟨?_, rfl⟩; simp [h1])
end Go.Proofs.YtildonpdmmliaaaGreatDoor.Own

namespace Go.Proofs.YtildonpdmmliaaaGreatDoor.Own
open Go.RowKit
set_option linter.unusedVariables false

/-- An entry that is not there. -/
def noneE (e : EB) : Bool := likeE e.n false (e.p, e.q) (0, 0) e.xs e.ys [] [] e.v e.k 0 0
/-- An entry that is right. -/
def rightE (e : EB) : Bool := entOk e.n e.p e.q e.xs e.ys e.v e.k
/-- A vote that is right, or none. -/
def voteOk (x : V) : Bool := if x.1 = 0 then noneE x.2 else isBal x.1 && rightE x.2
def votesOk (bs : List V) : Bool := decide (bs.length ≤ 40) && bs.all voteOk
/-- A vote that nobody can have whose last ballot is m. -/
def barsV (m : Int) (x : V) : Bool := if x.1 == 0 && noneE x.2 then false else !isBal x.1 || decide (m < x.1) || !rightE x.2
def votesUpto (m : Int) (bs : List V) : Bool := decide (bs.length ≤ 40) && !bs.any (barsV m)
def accOk (m : Int) (bs : List V) : Bool := decide (0 ≤ m) && decide (m ≤ 3000) && votesOk bs && bs.all fun x => decide (x.1 ≤ m)
theorem bars_eq {m : Int} (hm : 0 ≤ m) (x : V) : barsV m x = !(voteOk x && decide (x.1 ≤ m)) := by
  obtain ⟨b, e⟩ := x
  unfold barsV voteOk
  by_cases h : b = 0
  · subst h
    have hb : isBal 0 = false := by decide
    simp [hb, hm]
  · have hb : (b == 0) = false := by simpa using h
    simp only [hb, h, if_false, Bool.false_and, Bool.not_and, Bool.false_eq_true]
    by_cases hl : m < b
    · have : ¬ b ≤ m := by omega
      simp [hl, this]
    · have : b ≤ m := by omega
      simp [hl, this]
theorem bars_top (x : V) : barsV 3000 x = !voteOk x := by
  rw [bars_eq (by omega)]
  congr 1
  obtain ⟨b, e⟩ := x
  unfold voteOk
  by_cases h : b = 0
  · subst h; simp
  · simp only [h, if_false]
    cases hb : isBal b with
    | false => simp
    | true =>
      have := (isBal_iff.1 hb).2
      simp [this]
theorem votesUpto_top (bs : List V) : votesUpto 3000 bs = votesOk bs := by
  unfold votesUpto votesOk
  congr 1
  rw [show barsV 3000 = fun x => !voteOk x from funext bars_top]
  induction bs with
  | nil => rfl
  | cons x xs ih => simp [ih]
theorem votesUpto_acc {m : Int} (hm : 0 ≤ m) (bs : List V) : votesUpto m bs = (votesOk bs && bs.all fun x => decide (x.1 ≤ m)) := by
  unfold votesUpto votesOk
  rw [show barsV m = fun x => !(voteOk x && decide (x.1 ≤ m)) from funext (bars_eq hm), Bool.and_assoc]
  congr 1
  induction bs with
  | nil => rfl
  | cons x xs ih =>
    simp only [List.any_cons, List.all_cons, Bool.not_or, Bool.not_not, ih]
    cases voteOk x <;> cases decide (x.1 ≤ m) <;> simp
theorem accOk_upto (m : Int) (bs : List V) : accOk m bs = (decide (0 ≤ m) && decide (m ≤ 3000) && votesUpto m bs) := by
  unfold accOk
  by_cases h : 0 ≤ m
  · rw [votesUpto_acc h]; simp only [Bool.and_assoc]
  · simp [h]
theorem accOk_iff {m : Int} {bs : List V} (h : accOk m bs = true) : 0 ≤ m ∧ m ≤ 3000 ∧ votesOk bs = true ∧ ∀ x, x ∈ bs → x.1 ≤ m := by
  simp [accOk] at h
  exact ⟨h.1.1.1, h.1.1.2, h.1.2, fun x hx => h.2 x.1 x.2 hx⟩

/-- Two votes are one. -/
def sameV (x y : V) : Bool := x.1 == y.1 && likeE x.2.n y.2.n (x.2.p, x.2.q) (y.2.p, y.2.q) x.2.xs x.2.ys y.2.xs y.2.ys x.2.v x.2.k y.2.v y.2.k
def sameVs (xs ys : List V) : Bool := decide (xs.length = ys.length) && (List.range xs.length).all fun i => sameV (xs.getD i (0, e0)) (ys.getD i (0, e0))
theorem sameVs_len {xs ys : List V} (h : xs.length ≠ ys.length) : sameVs xs ys = false := by simp [sameVs, h]
theorem sameVs_not {xs ys : List V} {i : Nat} (hi : i < xs.length) (h : sameV (xs.getD i (0, e0)) (ys.getD i (0, e0)) = false) : sameVs xs ys = false := by
  unfold sameVs
  have : ((List.range xs.length).all fun i => sameV (xs.getD i (0, e0)) (ys.getD i (0, e0))) = false := by
    rw [Bool.eq_false_iff]
    intro e
    rw [List.all_eq_true] at e
    have := e i (List.mem_range.2 hi)
    rw [h] at this
    cases this
  rw [this, Bool.and_false]
theorem sameVs_all {xs ys : List V} (hl : xs.length = ys.length) (h : ∀ i, i < xs.length → sameV (xs.getD i (0, e0)) (ys.getD i (0, e0)) = true) : sameVs xs ys = true := by
  unfold sameVs
  rw [Bool.and_eq_true]
  refine ⟨by simpa using hl, ?_⟩
  rw [List.all_eq_true]
  exact fun i hi => h i (List.mem_range.1 hi)
theorem allV_at {α : Type} {p : α → Bool} {l : List α} (d : α) (h : ∀ i, i < l.length → p (l.getD i d) = true) : l.all p = true := by
  rw [List.all_eq_true]
  intro x hx
  obtain ⟨i, hi, rfl⟩ := List.getElem_of_mem hx
  have := h i hi
  simpa [List.getD, hi] using this
theorem allV_not {α : Type} {p : α → Bool} {l : List α} (d : α) {i : Nat} (hi : i < l.length) (h : p (l.getD i d) = false) : l.all p = false := by
  rw [Bool.eq_false_iff]
  intro e
  rw [List.all_eq_true] at e
  have := e (l.getD i d) (by simp [List.getD, hi])
  rw [h] at this
  cases this
theorem anyV_at {α : Type} {p : α → Bool} {l : List α} (d : α) (h : ∀ i, i < l.length → p (l.getD i d) = false) : l.any p = false := by
  rw [Bool.eq_false_iff]
  intro e
  rw [List.any_eq_true] at e
  obtain ⟨x, hx, e⟩ := e
  obtain ⟨i, hi, rfl⟩ := List.getElem_of_mem hx
  have := h i hi
  simp [List.getD, hi] at this
  rw [this] at e
  cases e
theorem anyV_hit {α : Type} {p : α → Bool} {l : List α} (d : α) {i : Nat} (hi : i < l.length) (h : p (l.getD i d) = true) : l.any p = true := by
  rw [List.any_eq_true]
  exact ⟨l.getD i d, by simp [List.getD, hi], h⟩
end Go.Proofs.YtildonpdmmliaaaGreatDoor.Own

namespace Go.Proofs.YtildonpdmmliaaaGreatDoor.Own
open Go.RowKit
set_option linter.unusedVariables false

def nodeId (n : Int) : Bool := decide (0 ≤ n) && decide (n < 3)
def inSpan (a b n : Int) : Bool := decide (a ≤ n) && decide (n ≤ b)
/-- What the messages of a kind have. -/
def formOk (kind bal slot : Int) (b : EB) (bs : List V) : Bool :=
  if kind = 1 then isBal bal && inSpan 0 40 slot && noneE b && decide (bs.length = 0)
  else if kind = 2 then isBal bal && inSpan 0 40 slot && noneE b && (votesOk bs && decide (slot + bs.length ≤ 40))
  else if kind = 3 then isBal bal && inSpan 0 39 slot && rightE b && decide (bs.length = 0)
  else if kind = 4 then isBal bal && inSpan 0 40 slot && noneE b && decide (bs.length = 0)
  else if kind = 5 then inSpan 0 0 bal && inSpan 0 39 slot && rightE b && decide (bs.length = 0)
  else if kind = 6 then isBal bal && inSpan 0 0 slot && noneE b && decide (bs.length = 0)
  else if kind = 7 then inSpan 0 0 bal && inSpan 0 0 slot && (rightE b && !b.n) && decide (bs.length = 0)
  else if kind = 8 then inSpan 0 0 bal && inSpan 0 40 slot && noneE b && decide (bs.length = 0)
  else false
def msgOk (x : MM) : Bool := nodeId x.src && nodeId x.dst && x.src != x.dst && formOk x.kind x.bal x.slot x.b (bodies x.vs)
theorem msgOk_cp (x : MM) (g : GM) : msgOk (cpM g x) = msgOk x := by simp only [msgOk, cpM, vmsOf_bodies]
theorem isBal_span (n : Int) : isBal n = inSpan 1 3000 n := rfl
theorem span_at {a n : Int} : inSpan a a n = (n == a) := by
  unfold inSpan
  by_cases h : n = a
  · subst h; simp
  · have : (n == a) = false := by simpa using h
    rw [this]
    by_cases h1 : a ≤ n
    · have : ¬ n ≤ a := by omega
      simp [this]
    · simp [h1]
theorem form_slot {kind bal slot : Int} {b : EB} {bs : List V} (h : slot < 0 ∨ 40 < slot) : formOk kind bal slot b bs = false := by
  have a : inSpan 0 40 slot = false := by unfold inSpan; rcases h with h | h <;> simp <;> omega
  have c : inSpan 0 39 slot = false := by unfold inSpan; rcases h with h | h <;> simp <;> omega
  have d : inSpan 0 0 slot = false := by unfold inSpan; rcases h with h | h <;> simp <;> omega
  unfold formOk
  simp only [a, c, d, Bool.and_false, Bool.false_and]
  simp
theorem form_votes {kind bal slot : Int} {b : EB} {bs : List V} (hk : kind ≠ 2) (h : 0 < bs.length) : formOk kind bal slot b bs = false := by
  have a : decide (bs.length = 0) = false := decide_eq_false (by omega)
  unfold formOk
  simp only [a, hk, Bool.and_false, if_false]
  simp
end Go.Proofs.YtildonpdmmliaaaGreatDoor.Own

namespace Go.Proofs.YtildonpdmmliaaaGreatDoor.Own
open Go.RowKit
set_option linter.unusedVariables false
set_option linter.unusedSimpArgs false

set_option maxRecDepth 100000 in
set_option maxHeartbeats 1000000 in
theorem implCertEntry (n : Bool) (p q : Int) (a1 a2 : Option Addr) (c1 c2 : Nat) (xs ys : List P2) (v k : Int) (w : World) (h1 : Sl w a1 xs) (h2 : Sl w a2 ys) (n1 : xs.length ≤ 2 ^ 40) (n2 : ys.length ≤ 2 ^ 40) :
    Calls Tryz.prog 49 #[.agg #[.bool n, .int .i64 p, .int .i64 q, .slice a1 xs.length c1, .slice a2 ys.length c2, .int .i64 v, .int .i64 k]] w fun e w' => e = .returned (.bool (entOk n p q xs ys v k)) ∧ Below w.heap.size w w' := by
  have H1 : Hid (Sl w a1 xs) := h1
  have H2 : Hid (Sl w a2 ys) := h2
  clear h1 h2
  obtain ⟨W, hW⟩ : ∃ W, W = w.alloc (.cells #[.bool n, .int .i64 p, .int .i64 q, .slice a1 xs.length c1, .slice a2 ys.length c2, .int .i64 v, .int .i64 k] 41) := ⟨_, rfl⟩
  have BW : Hid (Below w.heap.size w W) := by show Below _ _ _; rw [hW]; exact (Below.refl _ _).alloc (Nat.le_refl _) _
  have HW : Hid (W = _) := hW
  clear hW
  cases n with
  | false =>
    have E : Hid (entOk false p q xs ys v k = (reqOk p q && execOk xs ys v k && k != 3)) := rfl
    go_enter Tryz.func49, Tryz.ntmps49
    go_wp2_with fail
    rw [← HW.out]
    refine (implEntryOf _ _ _ _ _ _ _ W).mono ?_
    rintro e w1 ⟨rfl, b1⟩
    have B1 : Hid (Below w.heap.size w w1) := BW.out.trans (b1.mono BW.out.size)
    clear b1
    simp only [Bool.false_eq_true, if_false]
    go_wp2_with fail
    refine (implRunRight false p q a1 a2 c1 c2 xs ys v k w1 (H1.out.below B1.out) (H2.out.below B1.out) n1 n2).mono ?_
    rintro e w2 ⟨rfl, b2⟩
    have B2 : Hid (Below w.heap.size w w2) := B1.out.trans (b2.mono B1.out.size)
    clear b2
    rw [← E.out]
    generalize hr : entOk false p q xs ys v k = r
    have HR : Hid (_ = r) := hr
    clear hr
    go_wp2_with fail
    go_ret
    exact ⟨ret_bool HR.out.symm, B2.out⟩
  | true =>
    have E : Hid (entOk true p q xs ys v k = likeE true true (p, q) (0, 0) xs ys [] [] v k 0 0) := rfl
    go_enter Tryz.func49, Tryz.ntmps49
    go_wp2_with fail
    rw [← HW.out]
    refine (implEntryOf _ _ _ _ _ _ _ W).mono ?_
    rintro e w1 ⟨rfl, b1⟩
    have B1 : Hid (Below w.heap.size w w1) := BW.out.trans (b1.mono BW.out.size)
    clear b1
    simp only [if_true]
    go_wp2_with fail
    refine (implEmptyRight true p q a1 a2 c1 c2 xs ys v k w1 (H1.out.below B1.out) (H2.out.below B1.out) n1 n2).mono ?_
    rintro e w2 ⟨rfl, b2⟩
    have B2 : Hid (Below w.heap.size w w2) := B1.out.trans (b2.mono B1.out.size)
    clear b2
    rw [← E.out]
    generalize hr : entOk true p q xs ys v k = r
    have HR : Hid (_ = r) := hr
    clear hr
    go_wp2_with fail
    go_ret
    exact ⟨ret_bool HR.out.symm, B2.out⟩
end Go.Proofs.YtildonpdmmliaaaGreatDoor.Own
