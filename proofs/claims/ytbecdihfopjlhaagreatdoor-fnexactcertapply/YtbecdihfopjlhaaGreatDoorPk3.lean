/-
  Own texts, bundled: Ok, ProgOk2, ExecMath.
-/
import Derived.Test.YtbecdihfopjlhaaGreatDoorPk1
import Derived.Test.YtbecdihfopjlhaaGreatDoorPk2
namespace Go.Proofs.YtbecdihfopjlhaaGreatDoor.Own
open Go.RowKit

def numOk (n : Int) : Bool := decide (-1000000 ≤ n) && decide (n ≤ 1000000)
def boxOk1 (p : Int × Int) : Bool := decide (0 ≤ p.1) && decide (p.1 ≤ 1000000) && numOk p.2
def boxOk (xs : List (Int × Int)) : Bool := xs.length == 4 && xs.all boxOk1

set_option maxHeartbeats 400000 in
theorem l1Num (n : Int) (w : World) : Calls Tryz.prog 101 #[.int .i64 n] w fun e w' => e = .returned (.bool (numOk n)) ∧ w' = w := by
  have e : Hid (numOk n = (decide (-1000000 ≤ n) && decide (n ≤ 1000000))) := rfl
  by_cases h1 : -1000000 ≤ n
  · by_cases h2 : n ≤ 1000000
    all_goals
      go_enter Tryz.func101, Tryz.ntmps101
      go_wp2
      go_ret
      exact ⟨ret_bool (by rw [e.out]; simp [h1, h2]), rfl⟩
  · have h1' : n < -1000000 := by omega
    go_enter Tryz.func101, Tryz.ntmps101
    go_wp2
    go_ret
    exact ⟨ret_bool (by rw [e.out]; simp; omega), rfl⟩

set_option maxRecDepth 100000 in
set_option maxHeartbeats 1000000 in
theorem specOk (a : Option Addr) (c : Nat) (xs : List (Int × Int)) (w : World) (h : Sl w a xs) (hn : xs.length ≤ 2 ^ 40) :
    Calls Tryz.prog 100 #[.slice a xs.length c] w fun e w' => e = .returned (.bool (boxOk xs)) ∧ w' = w := by
  have e : Hid (boxOk xs = (xs.length == 4 && xs.all boxOk1)) := rfl
  have H1 : Hid (Sl w a xs) := h
  clear h
  by_cases hl : xs.length = 4
  · have hl' : ((xs.length : Int) != 4) = false := by simp [hl]
    have HL : Hid (xs.length = 4) := hl
    clear hl
    go_enter Tryz.func100, Tryz.ntmps100
    go_wp2
    go_loop [3] (fun i => ∃ k : Nat, k ≤ xs.length ∧ i = .int .i64 k ∧ Hid ((xs.take k).all boxOk1 = true)) (fun i => xs.length - (intOf i).toNat)
    case atStart => exact ⟨0, Nat.zero_le _, rfl, rfl⟩
    case round =>
      obtain ⟨k, hk, rfl, hA⟩ := hrel
      by_cases hlt : k < xs.length
      · rcases H1.out with h | ⟨b1, o1, rfl, h1⟩
        · subst h; simp at hlt
        obtain ⟨p, hp⟩ : ∃ p, p = xs.getD k (0, 0) := ⟨_, rfl⟩
        have ca := (h1.2 k hlt).1
        have cb := (h1.2 k hlt).2
        rw [← hp] at ca cb
        have HP : Hid (p = xs.getD k (0, 0)) := hp
        clear hp h1
        obtain ⟨p1, p2⟩ := p
        have fin : boxOk1 (p1, p2) = false → Hid (boxOk xs = false) := by
          intro h
          show boxOk xs = false
          rw [e.out, all_false (0, 0) hlt (by rw [← HP.out]; exact h)]; simp
        by_cases t1 : p1 < 0
        · have F := fin (by simp [boxOk1, show ¬ 0 ≤ p1 by omega])
          clear fin
          go_wp2
          go_ret
          exact ⟨ret_bool F.out.symm, rfl⟩
        · by_cases t2 : 1000000 < p1
          · have F := fin (by simp [boxOk1, show ¬ p1 ≤ 1000000 by omega])
            clear fin
            go_wp2
            go_ret
            exact ⟨ret_bool F.out.symm, rfl⟩
          · by_cases t3 : numOk p2 = true
            · have N : Hid ((xs.take (k + 1)).all boxOk1 = true) := by
                show _ = true
                rw [all_take_succ (0, 0) hlt, hA.out, ← HP.out]
                simp [boxOk1, t3]; omega
              clear fin
              go_wp2_with (go_at_call 101; refine (l1Num _ _).mono ?_; rintro e w' ⟨rfl, rfl⟩)
              go_round
              case rel => exact ⟨k + 1, by omega, by go_num, N⟩
              case measure => simp [intOf]; omega
            · have t3' : numOk p2 = false := by simpa using t3
              have F := fin (by simp [boxOk1, t3'])
              clear fin t3
              go_wp2_with (go_at_call 101; refine (l1Num _ _).mono ?_; rintro e w' ⟨rfl, rfl⟩)
              go_ret
              exact ⟨ret_bool F.out.symm, rfl⟩
      · go_wp2
        go_ret
        have : k = xs.length := by omega
        subst this
        refine ⟨ret_bool ?_, rfl⟩
        have h := hA.out
        rw [List.take_length] at h
        rw [e.out, h, HL.out]; rfl
  · have hl' : ((xs.length : Int) != 4) = true := by simp; omega
    go_enter Tryz.func100, Tryz.ntmps100
    go_wp2
    go_ret
    refine ⟨ret_bool ?_, rfl⟩
    rw [e.out]; simp [hl]

set_option maxRecDepth 100000 in
set_option maxHeartbeats 1000000 in
theorem implBoxOk1 (p1 p2 : Int) (w : World) : Calls Tryz.prog 117 #[.agg #[.int .i64 p1, .int .i64 p2]] w fun e w' => e = .returned (.bool (boxOk1 (p1, p2))) ∧ Below w.heap.size w w' := by
  have fin : ∀ b, boxOk1 (p1, p2) = b → Hid (boxOk1 (p1, p2) = b) := fun _ h => h
  by_cases t1 : 0 ≤ p1
  · by_cases t2 : p1 ≤ 1000000
    · by_cases t3 : -1000000 ≤ p2
      · by_cases t4 : p2 ≤ 1000000
        · have F := fin true (by simp [boxOk1, numOk, t1, t2, t3, t4])
          clear fin
          go_enter Tryz.func117, Tryz.ntmps117
          go_wp2
          go_ret
          exact ⟨ret_bool F.out.symm, (Below.refl _ _).alloc (Nat.le_refl _) _⟩
        · have F := fin false (by simp [boxOk1, numOk, t4])
          have t4' : 1000000 < p2 := by omega
          clear fin t4
          go_enter Tryz.func117, Tryz.ntmps117
          go_wp2
          go_ret
          exact ⟨ret_bool (by rw [F.out]; simp; omega), (Below.refl _ _).alloc (Nat.le_refl _) _⟩
      · have F := fin false (by simp [boxOk1, numOk, t3])
        have t3' : p2 < -1000000 := by omega
        clear fin t3
        go_enter Tryz.func117, Tryz.ntmps117
        go_wp2
        go_ret
        exact ⟨ret_bool F.out.symm, (Below.refl _ _).alloc (Nat.le_refl _) _⟩
    · have F := fin false (by simp [boxOk1, t2])
      have t2' : 1000000 < p1 := by omega
      clear fin t2
      go_enter Tryz.func117, Tryz.ntmps117
      go_wp2
      go_ret
      exact ⟨ret_bool F.out.symm, (Below.refl _ _).alloc (Nat.le_refl _) _⟩
  · have F := fin false (by simp [boxOk1, t1])
    have t1' : p1 < 0 := by omega
    clear fin t1
    go_enter Tryz.func117, Tryz.ntmps117
    go_wp2
    go_ret
    exact ⟨ret_bool F.out.symm, (Below.refl _ _).alloc (Nat.le_refl _) _⟩

def arrV (x0 x1 x2 x3 x4 x5 x6 x7 : Int) : Value := .agg #[.int .i64 x0, .int .i64 x1, .int .i64 x2, .int .i64 x3, .int .i64 x4, .int .i64 x5, .int .i64 x6, .int .i64 x7]

theorem idx0 (x0 x1 x2 x3 x4 x5 x6 x7 : Int) (w : World) : (Instr.index 99 (.agg #[.int .i64 x0, .int .i64 x1, .int .i64 x2, .int .i64 x3, .int .i64 x4, .int .i64 x5, .int .i64 x6, .int .i64 x7]) (.int .i64 0)).run Tryz.prog w = .ok (.agg #[.int .i64 x0, .int .i64 x1]) w := by kernel_rfl
theorem idx1 (x0 x1 x2 x3 x4 x5 x6 x7 : Int) (w : World) : (Instr.index 99 (.agg #[.int .i64 x0, .int .i64 x1, .int .i64 x2, .int .i64 x3, .int .i64 x4, .int .i64 x5, .int .i64 x6, .int .i64 x7]) (.int .i64 1)).run Tryz.prog w = .ok (.agg #[.int .i64 x2, .int .i64 x3]) w := by kernel_rfl
theorem idx2 (x0 x1 x2 x3 x4 x5 x6 x7 : Int) (w : World) : (Instr.index 99 (.agg #[.int .i64 x0, .int .i64 x1, .int .i64 x2, .int .i64 x3, .int .i64 x4, .int .i64 x5, .int .i64 x6, .int .i64 x7]) (.int .i64 2)).run Tryz.prog w = .ok (.agg #[.int .i64 x4, .int .i64 x5]) w := by kernel_rfl
theorem idx3 (x0 x1 x2 x3 x4 x5 x6 x7 : Int) (w : World) : (Instr.index 99 (.agg #[.int .i64 x0, .int .i64 x1, .int .i64 x2, .int .i64 x3, .int .i64 x4, .int .i64 x5, .int .i64 x6, .int .i64 x7]) (.int .i64 3)).run Tryz.prog w = .ok (.agg #[.int .i64 x6, .int .i64 x7]) w := by kernel_rfl

theorem idxAny (x0 x1 x2 x3 x4 x5 x6 x7 : Int) (k : Nat) (h : k < 4) (w : World) : ∃ p q, (Instr.index 99 (.agg #[.int .i64 x0, .int .i64 x1, .int .i64 x2, .int .i64 x3, .int .i64 x4, .int .i64 x5, .int .i64 x6, .int .i64 x7]) (.int .i64 k)).run Tryz.prog w = .ok (.agg #[.int .i64 p, .int .i64 q]) w ∧ (p, q) = [(x0, x1), (x2, x3), (x4, x5), (x6, x7)].getD k (0, 0) := by
  match k, h with
  | 0, _ => exact ⟨_, _, idx0 .., rfl⟩
  | 1, _ => exact ⟨_, _, idx1 .., rfl⟩
  | 2, _ => exact ⟨_, _, idx2 .., rfl⟩
  | 3, _ => exact ⟨_, _, idx3 .., rfl⟩

set_option maxRecDepth 100000 in
set_option maxHeartbeats 1000000 in
theorem arrOk (x0 x1 x2 x3 x4 x5 x6 x7 : Int) (w : World) : Calls Tryz.prog 93 #[.agg #[.int .i64 x0, .int .i64 x1, .int .i64 x2, .int .i64 x3, .int .i64 x4, .int .i64 x5, .int .i64 x6, .int .i64 x7]] w
    fun e w' => e = .returned (.bool ([(x0, x1), (x2, x3), (x4, x5), (x6, x7)].all boxOk1)) ∧ Below w.heap.size w w' := by
  obtain ⟨xs, hxs⟩ : ∃ xs, xs = [(x0, x1), (x2, x3), (x4, x5), (x6, x7)] := ⟨_, rfl⟩
  rw [← hxs]
  have HX : Hid (xs = [(x0, x1), (x2, x3), (x4, x5), (x6, x7)]) := hxs
  have HL : Hid (xs.length = 4) := by show xs.length = 4; rw [hxs]; rfl
  clear hxs
  go_enter Tryz.func93, Tryz.ntmps93
  go_wp2
  go_loopw [6] (fun i wr => ∃ k : Nat, k ≤ 4 ∧ i = .int .i64 k ∧ Hid ((xs.take k).all boxOk1 = true) ∧ Below w.heap.size w wr) (fun i _ => 4 - (intOf i).toNat)
  case atStart => exact ⟨0, Nat.zero_le _, rfl, rfl, (Below.refl _ _).alloc (Nat.le_refl _) _⟩
  case round =>
    obtain ⟨k, hk, rfl, hA, hB⟩ := hrel
    by_cases hlt : k < 4
    · obtain ⟨p, q, hidx, hpq⟩ := idxAny x0 x1 x2 x3 x4 x5 x6 x7 k hlt wr
      have HP : Hid ((p, q) = xs.getD k (0, 0)) := by show _ = _; rw [HX.out]; exact hpq
      clear hpq
      by_cases t : boxOk1 (p, q) = true
      · have N : Hid ((xs.take (k + 1)).all boxOk1 = true) := by
          show _ = true
          rw [all_take_succ (0, 0) (by rw [HL.out]; exact hlt), hA.out, ← HP.out, t]; rfl
        go_wp2_with fail
        refine (implBoxOk1 p q _).mono ?_
        rintro e w1 ⟨rfl, hb1⟩
        have B1 : Hid (Below w.heap.size w w1) := (hB.alloc hB.size _).trans (hb1.mono (by rw [size_new]; have := hB.size; omega))
        clear hb1 hidx
        go_wp2
        go_roundw
        case rel => exact ⟨k + 1, by omega, by go_num, N, B1.out⟩
        case measure => simp [intOf]; omega
      · have t' : boxOk1 (p, q) = false := by simpa using t
        have N : Hid (xs.all boxOk1 = false) := all_false (k := k) (0, 0) (by rw [HL.out]; exact hlt) (by rw [← HP.out]; exact t')
        clear t
        go_wp2_with fail
        refine (implBoxOk1 p q _).mono ?_
        rintro e w1 ⟨rfl, hb1⟩
        have B1 : Hid (Below w.heap.size w w1) := (hB.alloc hB.size _).trans (hb1.mono (by rw [size_new]; have := hB.size; omega))
        clear hb1 hidx
        go_wp2
        go_ret
        exact ⟨ret_bool N.out.symm, B1.out⟩
    · go_wp2
      go_ret
      have : k = 4 := by omega
      subst this
      refine ⟨ret_bool ?_, hB⟩
      have h := hA.out
      rw [List.take_of_length_le (by rw [HL.out]; omega)] at h
      exact h.symm

/-- The box at a place of a list; nothing behind its end. -/
def fromD (xs : List (Int × Int)) (at_ i : Nat) : Int × Int := xs.getD (at_ + i) (0, 0)

def flat (xs : List (Int × Int)) : List Value := xs.flatMap fun p => [.int .i64 p.1, .int .i64 p.2]
theorem flat_length (xs : List (Int × Int)) : (flat xs).length = xs.length * 2 := by
  induction xs with
  | nil => rfl
  | cons p r ih => simp [flat] at ih ⊢; omega
theorem flat_one (xs : List (Int × Int)) : ∀ v ∈ flat xs, v.oneCell' = true := by
  intro v hv
  simp [flat] at hv
  obtain ⟨a, b, _, h⟩ := hv
  rcases h with rfl | rfl <;> rfl
theorem flat_even (xs : List (Int × Int)) (i : Nat) (h : i < xs.length) : (flat xs)[i * 2]? = some (.int .i64 (xs.getD i (0, 0)).1) ∧ (flat xs)[i * 2 + 1]? = some (.int .i64 (xs.getD i (0, 0)).2) := by
  induction xs generalizing i with
  | nil => simp at h
  | cons p r ih =>
    cases i with
    | zero => simp [flat]
    | succ i =>
      have := ih i (by simpa using h)
      simp only [flat, List.flatMap_cons] at this ⊢
      rw [show (i + 1) * 2 = i * 2 + 2 by omega, show i * 2 + 2 + 1 = i * 2 + 1 + 2 by omega]
      simpa using this

theorem flat_at {w : World} {b off k : Nat} {xs : List (Int × Int)} (h : BoxAt w b off xs) (j : Nat) (v : Value) (hv : (flat ((xs.drop k).take 4))[j]? = some v) : w.cell? ⟨b, off + k * 2 + j, none⟩ = some v := by
  have hl : j < (flat ((xs.drop k).take 4)).length := (List.getElem?_eq_some_iff.1 hv).1
  rw [flat_length] at hl
  have hk : j / 2 < ((xs.drop k).take 4).length := by omega
  have e := flat_even _ (j / 2) hk
  have g : ((xs.drop k).take 4).getD (j / 2) (0, 0) = xs.getD (k + j / 2) (0, 0) := by
    simp at hk
    simp [List.getD, show j / 2 < 4 by omega]
  have hx := h.2 (k + j / 2) (by simp at hk; omega)
  rw [g] at e
  rcases Nat.mod_two_eq_zero_or_one j with m | m
  · rw [show off + k * 2 + j = off + (k + j / 2) * 2 by omega, hx.1, ← hv, ← e.1]
    congr 1; omega
  · rw [show off + k * 2 + j = off + (k + j / 2) * 2 + 1 by omega, hx.2, ← hv, ← e.2]
    congr 1; omega

theorem splice_get (xs : List (Int × Int)) (k i : Nat) (hi : i < 4) : (splice zeros8.toList 0 (flat ((xs.drop k).take 4)))[i * 2]? = some (.int .i64 (fromD xs k i).1) ∧ (splice zeros8.toList 0 (flat ((xs.drop k).take 4)))[i * 2 + 1]? = some (.int .i64 (fromD xs k i).2) := by
  have hl := flat_length ((xs.drop k).take 4)
  simp only [splice, List.take_zero, List.nil_append, Nat.zero_add]
  by_cases h : i < ((xs.drop k).take 4).length
  · have e := flat_even _ i h
    have g : ((xs.drop k).take 4).getD i (0, 0) = fromD xs k i := by
      simp at h
      simp [fromD, List.getD, hi]
    rw [g] at e
    rw [List.getElem?_append_left (by omega), List.getElem?_append_left (by omega)]
    exact e
  · have g : fromD xs k i = (0, 0) := by
      simp at h
      simp [fromD, List.getD, show xs.length ≤ k + i by omega]
    rw [List.getElem?_append_right (by omega), List.getElem?_append_right (by omega), g]
    simp only [List.getElem?_drop]
    rw [show (flat ((xs.drop k).take 4)).length + (i * 2 - (flat ((xs.drop k).take 4)).length) = i * 2 by omega, show (flat ((xs.drop k).take 4)).length + (i * 2 + 1 - (flat ((xs.drop k).take 4)).length) = i * 2 + 1 by omega]
    match i, hi with
    | 0, _ | 1, _ | 2, _ | 3, _ => exact ⟨rfl, rfl⟩

theorem zeros_list : zeros8.toList.toArray = zeros8 := by simp

set_option maxRecDepth 100000 in
set_option maxHeartbeats 1000000 in
theorem boxesFrom (a : Option Addr) (c : Nat) (xs : List (Int × Int)) (k : Nat) (w : World) (h : Sl w a xs) (hc : xs.length ≤ c) (hk : k ≤ xs.length) :
    Calls Tryz.prog 45 #[.slice a xs.length c, .int .i64 k] w
    fun e w' => e = .returned (.agg #[.int .i64 (fromD xs k 0).1, .int .i64 (fromD xs k 0).2, .int .i64 (fromD xs k 1).1, .int .i64 (fromD xs k 1).2, .int .i64 (fromD xs k 2).1, .int .i64 (fromD xs k 2).2, .int .i64 (fromD xs k 3).1, .int .i64 (fromD xs k 3).2]) ∧ Below w.heap.size w w' := by
  have H1 : Hid (Sl w a xs) := h
  clear h
  obtain ⟨cs, hcs⟩ : ∃ cs, cs = flat ((xs.drop k).take 4) := ⟨_, rfl⟩
  have HCS : Hid (cs = flat ((xs.drop k).take 4)) := hcs
  have hn : Hid (cs.length = Nat.min (xs.length - k) 4 * 2) := by
    show _ = _
    rw [hcs, flat_length, List.length_take, List.length_drop, Nat.min_comm]
  have h1c : Hid (∀ v ∈ cs, v.oneCell' = true) := by show ∀ v ∈ cs, _; rw [hcs]; exact flat_one _
  clear hcs
  obtain ⟨W, hW⟩ : ∃ W, W = (w.alloc (.cells #[.int .i64 0, .int .i64 0, .int .i64 0, .int .i64 0, .int .i64 0, .int .i64 0, .int .i64 0, .int .i64 0] 99)).alloc (.cells #[.int .i64 0, .int .i64 0, .int .i64 0, .int .i64 0, .int .i64 0, .int .i64 0, .int .i64 0, .int .i64 0] 99) := ⟨_, rfl⟩
  have hbW : Hid (Below w.heap.size w W) := by
    show Below _ _ _
    rw [hW]; exact ((Below.refl _ _).alloc (Nat.le_refl _) _).alloc (by simp) _
  have hgW : Hid (W.drew.heap[w.heap.size + 1]? = some (.cells zeros8.toList.toArray 99 (0, 0))) := by
    show W.heap[w.heap.size + 1]? = _
    rw [hW]; exact heap_new2 _ _ _
  have hg0 : Hid (W.heap[w.heap.size]? = some (.cells #[.int .i64 0, .int .i64 0, .int .i64 0, .int .i64 0, .int .i64 0, .int .i64 0, .int .i64 0, .int .i64 0] 99 (0, 0))) := by
    show _ = _
    rw [hW]; exact heap_new1 _ _ _
  have HW : Hid (W = _) := hW
  clear hW
  have hfit : Hid (0 + cs.length ≤ zeros8.toList.length) := by
    show _ ≤ 8
    have := hn.out
    have : Nat.min (xs.length - k) 4 ≤ 4 := Nat.min_le_right _ _
    omega
  have after : ∀ w4 : World, Hid (w4.heap[w.heap.size + 1]? = some (.cells (splice zeros8.toList 0 cs).toArray 99 (0, 0))) → Below (w.heap.size + 1) W.drew w4 →
      (∀ i, i < 4 → w4.cell? ⟨w.heap.size + 1, i * 2, none⟩ = some (.int .i64 (fromD xs k i).1) ∧ w4.cell? ⟨w.heap.size + 1, i * 2 + 1, none⟩ = some (.int .i64 (fromD xs k i).2)) ∧
      (∀ o, w4.cell? ⟨w.heap.size, o, none⟩ = (#[.int .i64 0, .int .i64 0, .int .i64 0, .int .i64 0, .int .i64 0, .int .i64 0, .int .i64 0, .int .i64 0] : Array Value)[o]?) ∧ (∀ o, w4.frozen? ⟨w.heap.size, o, none⟩ = false) := by
    intro w4 hg4 hb4
    refine ⟨fun i hi => ?_, ?_, ?_⟩
    · have := splice_get xs k i hi
      rw [← HCS.out] at this
      rw [cell_heap hg4.out, cell_heap hg4.out]
      simpa using this
    · have e : w4.heap[w.heap.size]? = _ := (hb4.block _ (by omega)).trans hg0.out
      exact fun o => cell_heap e o
    · have e : w4.heap[w.heap.size]? = _ := (hb4.block _ (by omega)).trans hg0.out
      exact fun o => frozen_heap e o
  have HAF := after
  have AF : Hid (∀ w4 : World, _) := HAF
  clear after HAF
  by_cases hkc : k < c
  · have hkc' : ¬ c = k := by omega
    have hpos : Hid (Nat.min (xs.length - k) 4 = 0 ∨ ∃ ad, (a.map fun x => x.add (k * 2)) = some ad ∧ ∀ j v, cs[j]? = some v → W.drew.cell? (ad.add j) = some v) := by
      show _ ∨ _
      rcases H1.out with h | ⟨b, off, rfl, h⟩
      · left; rw [h]; simp
      · right
        refine ⟨⟨b, off + k * 2, none⟩, by simp [Addr.add], fun j v hv => ?_⟩
        have e : (⟨b, off + k * 2, none⟩ : Addr).add j = ⟨b, off + k * 2 + j, none⟩ := by simp [Addr.add]
        rw [e]
        show W.cell? _ = _
        rw [hbW.out.cell (p := ⟨b, off + k * 2 + j, none⟩) h.1]
        rw [HCS.out] at hv
        exact flat_at h j v hv
    go_enter Tryz.func45, Tryz.ntmps45
    go_wp2
    rw [← HW.out]
    go_region_law (refine step_copy_fat rfl (.tmp 6) (.tmp 9) 25 25 rfl 42 2 Tryz.underlying25 szBox (w.heap.size + 1) 0 4 4 (a.map fun x => x.add (k * 2)) (xs.length - k) (c - k) (by simp [Act.eval, Act.put]) (by simp [Act.eval, Act.put]) zeros8.toList 99 hgW.out cs hn.out hpos.out hfit.out h1c.out (w.heap.size + 1) W.drew (Below.refl _ _) (Nat.le_refl _) ?_; intro w4 hg4 hb4)
    all_goals
      obtain ⟨q1, q2, q3⟩ := AF.out w4 hg4 hb4
      have ⟨e0, e1⟩ := q1 0 (by omega)
      have ⟨e2, e3⟩ := q1 1 (by omega)
      have ⟨e4, e5⟩ := q1 2 (by omega)
      have ⟨e6, e7⟩ := q1 3 (by omega)
      have HB4 : Hid (Below w.heap.size w w4) := hbW.out.trans (Below.trans ((Below.refl _ _).drew) (hb4.mono (by omega)))
      clear q1 hg4 hb4
      simp only [Nat.zero_mul, Nat.zero_add, Nat.one_mul, Nat.reduceMul, Nat.reduceAdd] at e0 e1 e2 e3 e4 e5 e6 e7
      go_wp2
      refine bodyPost_ret (v := .agg #[.int .i64 (fromD xs k 0).1, .int .i64 (fromD xs k 0).2, .int .i64 (fromD xs k 1).1, .int .i64 (fromD xs k 1).2, .int .i64 (fromD xs k 2).1, .int .i64 (fromD xs k 2).2, .int .i64 (fromD xs k 3).1, .int .i64 (fromD xs k 3).2]) (by simp [results, Tryz.results45, go_sem, q2]) rfl ⟨rfl, ?_⟩
      exact ((((((((HB4.out.setCell (Nat.le_refl _) _).setCell (Nat.le_refl _) _).setCell (Nat.le_refl _) _).setCell (Nat.le_refl _) _).setCell (Nat.le_refl _) _).setCell (Nat.le_refl _) _).setCell (Nat.le_refl _) _).setCell (Nat.le_refl _) _)
  · obtain rfl : k = c := by omega
    have hz : Hid (xs.length - k = 0) := by show _ = _; omega
    have hn0 : Hid (cs.length = Nat.min 0 4 * 2) := by have := hn.out; rw [hz.out] at this; exact this
    have hpos : Hid (Nat.min 0 4 = 0 ∨ ∃ ad, a = some ad ∧ ∀ j v, cs[j]? = some v → W.drew.cell? (ad.add j) = some v) := by
      left; rfl
    go_enter Tryz.func45, Tryz.ntmps45
    go_wp2
    rw [← HW.out]
    go_region_law (refine step_copy_fat rfl (.tmp 6) (.tmp 9) 25 25 rfl 42 2 Tryz.underlying25 szBox (w.heap.size + 1) 0 4 4 a 0 0 (by simp [Act.eval, Act.put]) (by simp [Act.eval, Act.put]) zeros8.toList 99 hgW.out cs hn0.out hpos.out hfit.out h1c.out (w.heap.size + 1) W.drew (Below.refl _ _) (Nat.le_refl _) ?_; intro w4 hg4 hb4)
    all_goals
      obtain ⟨q1, q2, q3⟩ := AF.out w4 hg4 hb4
      have ⟨e0, e1⟩ := q1 0 (by omega)
      have ⟨e2, e3⟩ := q1 1 (by omega)
      have ⟨e4, e5⟩ := q1 2 (by omega)
      have ⟨e6, e7⟩ := q1 3 (by omega)
      have HB4 : Hid (Below w.heap.size w w4) := hbW.out.trans (Below.trans ((Below.refl _ _).drew) (hb4.mono (by omega)))
      clear q1 hg4 hb4
      simp only [Nat.zero_mul, Nat.zero_add, Nat.one_mul, Nat.reduceMul, Nat.reduceAdd] at e0 e1 e2 e3 e4 e5 e6 e7
      go_wp2
      refine bodyPost_ret (v := .agg #[.int .i64 (fromD xs k 0).1, .int .i64 (fromD xs k 0).2, .int .i64 (fromD xs k 1).1, .int .i64 (fromD xs k 1).2, .int .i64 (fromD xs k 2).1, .int .i64 (fromD xs k 2).2, .int .i64 (fromD xs k 3).1, .int .i64 (fromD xs k 3).2]) (by simp [results, Tryz.results45, go_sem, q2]) rfl ⟨rfl, ?_⟩
      exact ((((((((HB4.out.setCell (Nat.le_refl _) _).setCell (Nat.le_refl _) _).setCell (Nat.le_refl _) _).setCell (Nat.le_refl _) _).setCell (Nat.le_refl _) _).setCell (Nat.le_refl _) _).setCell (Nat.le_refl _) _).setCell (Nat.le_refl _) _)
end Go.Proofs.YtbecdihfopjlhaaGreatDoor.Own

namespace Go.Proofs.YtbecdihfopjlhaaGreatDoor.Own
open Go.RowKit

def numOk2 (n : Int) : Bool := decide (-1000000 ≤ n) && decide (n ≤ 1000000)
def regOk (n : Int) : Bool := decide (0 ≤ n) && decide (n ≤ 3)
def lessOk (n : Int) : Bool := decide (1 ≤ n) && decide (n ≤ 10)
/-- An instruction is right. -/
def insOk (p : Q4) : Bool :=
  if p.1 = 1 ∨ p.1 = 2 ∨ p.1 = 4 ∨ p.1 = 5 then regOk p.2.1 && regOk p.2.2.1 && p.2.2.2 == 0
  else if p.1 = 3 then regOk p.2.1 && p.2.2.1 == 0 && numOk2 p.2.2.2
  else if p.1 = 6 then regOk p.2.1 && regOk p.2.2.1 && lessOk p.2.2.2
  else if p.1 = 7 then p.2.1 == 0 && p.2.2.1 == 0 && p.2.2.2 == 0
  else false
/-- A program is ok. -/
def progOk (xs : List Q4) : Bool := decide (xs.length ≤ 10) && xs.all insOk

theorem insOk_1 (a b n : Int) : insOk (1, a, b, n) = (regOk a && regOk b && n == 0) := rfl
theorem insOk_2 (a b n : Int) : insOk (2, a, b, n) = (regOk a && regOk b && n == 0) := rfl
theorem insOk_3 (a b n : Int) : insOk (3, a, b, n) = (regOk a && b == 0 && numOk2 n) := rfl
theorem insOk_4 (a b n : Int) : insOk (4, a, b, n) = (regOk a && regOk b && n == 0) := rfl
theorem insOk_5 (a b n : Int) : insOk (5, a, b, n) = (regOk a && regOk b && n == 0) := rfl
theorem insOk_6 (a b n : Int) : insOk (6, a, b, n) = (regOk a && regOk b && lessOk n) := rfl
theorem insOk_7 (a b n : Int) : insOk (7, a, b, n) = (a == 0 && b == 0 && n == 0) := rfl
theorem insOk_no {k : Int} (a b n : Int) (h : k ≠ 1 ∧ k ≠ 2 ∧ k ≠ 3 ∧ k ≠ 4 ∧ k ≠ 5 ∧ k ≠ 6 ∧ k ≠ 7) : insOk (k, a, b, n) = false := by
  obtain ⟨h1, h2, h3, h4, h5, h6, h7⟩ := h
  simp [insOk, h1, h2, h3, h4, h5, h6, h7]
end Go.Proofs.YtbecdihfopjlhaaGreatDoor.Own

namespace Go.Proofs.YtbecdihfopjlhaaGreatDoor.Own
open Go.RowKit
set_option linter.unusedVariables false

abbrev P2 := Int × Int
def z2 : P2 := (0, 0)

/-- What stands at a place is of a box, right, and its box has not come ahead of it. -/
def okAt (f : Int → Bool) (xs : List P2) (i : Nat) : Bool := regOk (xs.getD i (0, 0)).1 && f (xs.getD i (0, 0)).2 && !((xs.take i).any fun p => p.1 == (xs.getD i (0, 0)).1)
def okAll (f : Int → Bool) (xs : List P2) : Bool := (List.range xs.length).all (okAt f xs)
theorem okAll_iff {f : Int → Bool} {xs : List P2} : okAll f xs = true ↔ ∀ i, i < xs.length → okAt f xs i = true := by
  simp [okAll, List.all_eq_true]
theorem okAll_false {f : Int → Bool} {xs : List P2} {i : Nat} (hi : i < xs.length) (h : okAt f xs i = false) : okAll f xs = false := by
  rw [Bool.eq_false_iff]
  intro e
  rw [okAll_iff.1 e i hi] at h
  cases h

def verOk (n : Int) : Bool := decide (0 ≤ n) && decide (n ≤ 1000000)
def endOk (k v : Int) (nr np : Nat) : Bool :=
  if k = 0 then numOk v else if k = 1 ∨ k = 2 then v == 0 && decide (np = 0) else if k = 3 then v == 0 && decide (np = 0) && decide (nr = 0) else false
/-- A run is right. -/
def execOk (xs ys : List P2) (v k : Int) : Bool := endOk k v xs.length ys.length && okAll verOk xs && okAll numOk ys

theorem endOk_0 (v : Int) (nr np : Nat) : endOk 0 v nr np = numOk v := rfl
theorem endOk_1 (v : Int) (nr np : Nat) : endOk 1 v nr np = (v == 0 && decide (np = 0)) := rfl
theorem endOk_2 (v : Int) (nr np : Nat) : endOk 2 v nr np = (v == 0 && decide (np = 0)) := rfl
theorem endOk_3 (v : Int) (nr np : Nat) : endOk 3 v nr np = (v == 0 && decide (np = 0) && decide (nr = 0)) := rfl
theorem endOk_no {k : Int} (v : Int) (nr np : Nat) (h : k ≠ 0 ∧ k ≠ 1 ∧ k ≠ 2 ∧ k ≠ 3) : endOk k v nr np = false := by
  obtain ⟨h0, h1, h2, h3⟩ := h
  simp [endOk, h0, h1, h2, h3]

/-- The boxes that have come, as marks. -/
def seen (xs : List P2) (k : Nat) (j : Nat) : Bool := (xs.take k).any fun p => p.1 == (j : Int)
theorem seen_zero (xs : List P2) (j : Nat) : seen xs 0 j = false := by simp [seen]
theorem seen_succ (xs : List P2) (k j : Nat) (h : k < xs.length) : seen xs (k + 1) j = (seen xs k j || (xs.getD k (0, 0)).1 == (j : Int)) := by
  unfold seen
  rw [List.take_succ_eq_append_getElem h, List.any_append]
  simp [List.getD, h]
theorem okAt_seen (f : Int → Bool) (xs : List P2) (k : Nat) (j : Nat) (hj : (xs.getD k (0, 0)).1 = (j : Int)) : okAt f xs k = (regOk (j : Int) && f (xs.getD k (0, 0)).2 && !seen xs k j) := by
  simp only [okAt, seen, hj]
end Go.Proofs.YtbecdihfopjlhaaGreatDoor.Own
