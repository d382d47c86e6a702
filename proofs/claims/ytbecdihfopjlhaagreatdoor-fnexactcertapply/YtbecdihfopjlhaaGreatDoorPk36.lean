/-
  Own texts, bundled: ToD, EqD.
-/
import Derived.Test.YtbecdihfopjlhaaGreatDoorPk2
import Derived.Test.YtbecdihfopjlhaaGreatDoorPk35
import Derived.Test.YtbecdihfopjlhaaGreatDoorPk1
namespace Go.Proofs.YtbecdihfopjlhaaGreatDoor.Own
open Go.RowKit
set_option linter.unusedVariables false
set_option linter.unusedSimpArgs false

theorem infoDone : (Tryz.prog.info? 94).map (fun i => (i.zero, i.size, i.bytes)) = some (some (.agg #[.int .i64 0, .int .i64 0, .int .i64 0, .int .i64 0]), 4, 32) := by kernel_rfl

set_option maxHeartbeats 400000 in
theorem szDoneS (a : Option Addr) (n c : Nat) (left : Int) (w : World) (hn : n ≤ maxLen) (h0 : 0 ≤ left) (h1 : left ≤ 2 ^ 60) :
    Calls Tryz.prog 54 #[.slice a n c, .int .i64 left] w fun e w' => e = .returned (.int .i64 (if left - n < 0 then -1 else left - n)) ∧ w' = w := by
  unfold maxLen at hn
  go_enter Tryz.func54, Tryz.ntmps54
  go_wp2
  all_goals
    go_ret
    exact ⟨rfl, rfl⟩

set_option maxRecDepth 100000 in
set_option maxHeartbeats 1000000 in
theorem toDone (a b c d : Int) (w : World) : Calls Tryz.prog 104 #[.agg #[.int .i64 a, .int .i64 b, .int .i64 c, .int .i64 d]] w fun e w' => e = .returned (.agg #[.int .i64 a, .int .i64 b, .int .i64 c, .int .i64 d]) ∧ Below w.heap.size w w' := by
  obtain ⟨W, hW⟩ : ∃ W, W = ((w.alloc (.cells #[.int .i64 a, .int .i64 b, .int .i64 c, .int .i64 d] 173)).alloc (.cells #[.int .i64 0, .int .i64 0, .int .i64 0, .int .i64 0] 94)).alloc (.cells #[.int .i64 0, .int .i64 0, .int .i64 0, .int .i64 0] 94) := ⟨_, rfl⟩
  have BW : Hid (Below w.heap.size w W) := by
    show Below _ _ _
    rw [hW]; exact ((((Below.refl _ _).alloc (Nat.le_refl _) _).alloc (by simp) _).alloc (by simp; omega) _)
  have G0 : Hid (Blk W w.heap.size #[.int .i64 a, .int .i64 b, .int .i64 c, .int .i64 d] 173) := by
    show Blk _ _ _ _; rw [hW]; exact ((Blk.new _ _ _).alloc _).alloc _
  have G1 : Hid (Blk W (w.heap.size + 1) #[.int .i64 0, .int .i64 0, .int .i64 0, .int .i64 0] 94) := by
    show Blk _ _ _ _; rw [hW]; exact (Blk.new2 _ _ _ _).alloc _
  have G2 : Hid (Blk W (w.heap.size + 1 + 1) #[.int .i64 0, .int .i64 0, .int .i64 0, .int .i64 0] 94) := by
    show Blk _ _ _ _; rw [hW]; exact Blk.new3 _ _ _ _ _
  have HW : Hid (W = _) := hW
  clear hW
  go_enter Tryz.func104, Tryz.ntmps104
  go_wp2_with fail
  rw [← HW.out]
  refine (toReq a b W).mono ?_
  rintro e w1 ⟨rfl, b1⟩
  have B1 : Hid (Below w.heap.size w w1) := BW.out.trans (b1.mono BW.out.size)
  have D0 : Hid (Blk w1 w.heap.size _ _) := G0.out.keep b1
  have D1 : Hid (Blk w1 (w.heap.size + 1) _ _) := G1.out.keep b1
  have D2 : Hid (Blk w1 (w.heap.size + 1 + 1) _ _) := G2.out.keep b1
  clear b1
  obtain ⟨q0, q1, q2, q3⟩ := D0.out.cells4
  obtain ⟨r0, r1, r2, r3⟩ := D2.out.cells4
  obtain ⟨s0, s1, s2, s3⟩ := D1.out.cells4
  have fo := D2.out.frozen
  have fi := D1.out.frozen
  go_wp2
  refine bodyPost_ret (v := .agg #[.int .i64 a, .int .i64 b, .int .i64 c, .int .i64 d]) (by simp [results, Tryz.results104, go_sem, s0, s1, s2, s3]) rfl ⟨rfl, ?_⟩
  have t2 : w.heap.size ≤ w.heap.size + 1 + 1 := by omega
  have t1 : w.heap.size ≤ w.heap.size + 1 := by omega
  exact (((((((B1.out.setCell t2 _).setCell t2 _).setCell t2 _).setCell t2 _).setCell t1 _).setCell t1 _).setCell t1 _).setCell t1 _

/-- A row of n instructions of one's own. -/
def RowD (w : World) (b n : Nat) : Prop := ∃ C, w.heap[b]? = some (.cells C 94 (0, 0)) ∧ C.size = n * 4 ∧ ∀ v ∈ C, v.oneCell' = true

theorem RowD.setCell {w : World} {b n : Nat} (h : RowD w b n) (o : Nat) (v : Value) (hv : v.oneCell' = true) : RowD (w.setCell ⟨b, o, none⟩ v) b n := by
  obtain ⟨C, h1, h2, h3⟩ := h
  refine ⟨C.setIfInBounds o v, ?_, by simpa using h2, ?_⟩
  · simp [World.setCell, Array.getElem?_modify, h1]
  · intro u hu
    rcases Array.mem_or_eq_of_mem_setIfInBounds hu with h | h
    · exact h3 u h
    · rw [h]; exact hv

theorem RowD.cell {w : World} {b n : Nat} (h : RowD w b n) (o : Nat) (ho : o < n * 4) : ∃ v, w.cell? ⟨b, o, none⟩ = some v ∧ v.oneCell' = true := by
  obtain ⟨C, h1, h2, h3⟩ := h
  rw [cell_heap h1]
  exact ⟨C[o]'(by omega), by simp, h3 _ (by simp)⟩

theorem RowD.frozen {w : World} {b n : Nat} (h : RowD w b n) (o : Nat) : w.frozen? ⟨b, o, none⟩ = false := by
  obtain ⟨C, h1, _⟩ := h
  exact frozen_heap h1 o

theorem RowD.lt {w : World} {b n : Nat} (h : RowD w b n) : b < w.heap.size := by
  obtain ⟨C, h1, _⟩ := h
  exact (Array.getElem?_eq_some_iff.1 h1).1

theorem RowD.below {w w' : World} {b n B : Nat} (h : RowD w b n) (hb : Below B w w') (hB : b < B) : RowD w' b n := by
  obtain ⟨C, h1, h2⟩ := h
  exact ⟨C, by rw [hb.block _ hB]; exact h1, h2⟩

theorem RowD.made (w : World) (n : Nat) : RowD (w.alloc (.cells (madeCells (Value.agg #[.int .i64 0, .int .i64 0, .int .i64 0, .int .i64 0]).cells (n * 4)) 94)) w.heap.size n := by
  refine ⟨_, heap_new _ _, size_madeCells _ _, ?_⟩
  intro v hv
  obtain ⟨k, hk, rfl⟩ := Array.getElem_of_mem hv
  rw [size_madeCells] at hk
  obtain ⟨v, h1, h2⟩ := made_cell (z := (Value.agg #[.int .i64 0, .int .i64 0, .int .i64 0, .int .i64 0]).cells) (n := n * 4) (k := k) (by decide) hk (by simp [Value.cells, Value.oneCell'])
  rw [Array.getElem?_eq_getElem (by simpa [size_madeCells] using hk)] at h1
  injection h1 with h1
  rw [h1]; exact h2

set_option maxHeartbeats 1000000 in
theorem toDoneS (a : Option Addr) (c : Nat) (xs : List Q4) (w : World) (h : Sl4 w a xs) (hn : xs.length ≤ 2 ^ 40) :
    Calls Tryz.prog 59 #[.slice a xs.length c] w fun e w' => e = .returned (.slice (some ⟨w.heap.size, 0, none⟩) xs.length xs.length) ∧ At4 w' w.heap.size 0 xs ∧ RowD w' w.heap.size xs.length ∧ Below w.heap.size w w' := by
  have H1 : Hid (Sl4 w a xs) := h
  clear h
  have hmk := make_row (P := Tryz.prog) Tryz.underlying26 infoDone xs.length (by omega) (by omega)
  go_enter Tryz.func59, Tryz.ntmps59
  go_wp2
  clear hmk
  go_loopw [4] (fun i wr => ∃ k : Nat, k ≤ xs.length ∧ i = .int .i64 k ∧ At4 wr w.heap.size 0 (xs.take k) ∧ RowD wr w.heap.size xs.length ∧ Below w.heap.size w wr) (fun i _ => xs.length - (intOf i).toNat)
  case atStart => exact ⟨0, Nat.zero_le _, rfl, ⟨by simp, by simp⟩, RowD.made w _, (Below.refl _ _).alloc (Nat.le_refl _) _⟩
  case round =>
    obtain ⟨k, hk, rfl, hat, hrow, hB⟩ := hrel
    by_cases hlt : k < xs.length
    · rcases H1.out with h | ⟨b1, o1, rfl, h1⟩
      · subst h; simp at hlt
      have H1' : Hid (At4 w b1 o1 xs) := h1
      clear h1
      obtain ⟨p, hp⟩ : ∃ p, p = xs.getD k q0 := ⟨_, rfl⟩
      obtain ⟨ca, cb, cc, cd⟩ := H1'.out.2 k hlt
      rw [← hB.cell H1'.out.1, ← hp] at ca cb cc cd
      have HP : Hid (p = xs.getD k q0) := hp
      have HA : Hid (At4 wr w.heap.size 0 (xs.take k)) := hat
      have HR : Hid (RowD wr w.heap.size xs.length) := hrow
      clear hp hat hrow
      obtain ⟨p1, p2, p3, p4⟩ := p
      go_wp2_with fail
      refine (toDone p1 p2 p3 p4 _).mono ?_
      rintro e w1 ⟨rfl, hb1⟩
      have R1 := HR.out.below hb1 HR.out.lt
      have HR1 : Hid (RowD w1 w.heap.size xs.length) := R1
      obtain ⟨v1, c1, _⟩ := R1.cell (k * 4) (by omega)
      obtain ⟨v2, c2, _⟩ := R1.cell (k * 4 + 1) (by omega)
      obtain ⟨v3, c3, _⟩ := R1.cell (k * 4 + 2) (by omega)
      obtain ⟨v4, c4, _⟩ := R1.cell (k * 4 + 3) (by omega)
      have f1 := R1.frozen (k * 4)
      have f2 := R1.frozen (k * 4 + 1)
      have f3 := R1.frozen (k * 4 + 2)
      have f4 := R1.frozen (k * 4 + 3)
      have HA1 : Hid (At4 w1 w.heap.size 0 (xs.take k)) := HA.out.below hb1
      have HB1 : Hid (Below w.heap.size w w1) := hB.trans (hb1.mono hB.size)
      clear R1 hb1 ca cb cc cd
      go_wp2
      go_roundw
      case rel =>
        refine ⟨k + 1, by omega, by go_num, ?_, (((HR1.out.setCell _ _ rfl).setCell _ _ rfl).setCell _ _ rfl).setCell _ _ rfl, (((HB1.out.setCell (Nat.le_refl _) _).setCell (Nat.le_refl _) _).setCell (Nat.le_refl _) _).setCell (Nat.le_refl _) _⟩
        refine ⟨by simpa [World.setCell] using HR1.out.lt, fun i hi => ?_⟩
        have hi' : i < k + 1 := by simp at hi; omega
        have P := put4 (.int .i64 p1) (.int .i64 p2) (.int .i64 p3) (.int .i64 p4) c1 c2 c3 c4
        rw [Nat.zero_add]
        by_cases e : i = k
        · subst e
          have e2 : (xs.take (i + 1)).getD i q0 = (p1, p2, p3, p4) := by
            rw [HP.out]; simp [List.getD]
          rw [e2]
          exact ⟨P.1, P.2.1, P.2.2.1, P.2.2.2.1⟩
        · have := HA1.out.2 i (by simp; omega)
          rw [Nat.zero_add] at this
          have e2 : (xs.take (k + 1)).getD i q0 = (xs.take k).getD i q0 := by
            simp [List.getD, show i < k by omega, show i < k + 1 by omega]
          rw [e2]
          rw [P.2.2.2.2 _ (by omega), P.2.2.2.2 _ (by omega), P.2.2.2.2 _ (by omega), P.2.2.2.2 _ (by omega)]
          exact this
      case measure => simp [intOf]; omega
    · go_wp2
      go_ret
      have : k = xs.length := by omega
      subst this
      refine ⟨rfl, ?_, hrow, hB⟩
      rw [List.take_length] at hat
      exact hat
end Go.Proofs.YtbecdihfopjlhaaGreatDoor.Own

namespace Go.Proofs.YtbecdihfopjlhaaGreatDoor.Own
open Go.RowKit
set_option linter.unusedVariables false
set_option linter.unusedSimpArgs false

set_option maxHeartbeats 1000000 in
theorem eqReqG (a b a' b' : Int) (w : World) : Calls Tryz.prog 64 #[.agg #[.int .i64 a, .int .i64 b], .agg #[.int .i64 a', .int .i64 b']] w fun e w' => e = .returned (.bool (a == a' && b == b')) ∧ Below w.heap.size w w' := by
  obtain ⟨r, hr⟩ : ∃ r, r = (a == a' && b == b') := ⟨_, rfl⟩
  have E : Hid (r = (a == a' && b == b')) := hr
  rw [← hr]
  clear hr
  go_enter Tryz.func64, Tryz.ntmps64
  go_wp2
  all_goals go_ret
  all_goals refine ⟨ret_bool ?_, ((Below.refl _ _).alloc (Nat.le_refl _) _).alloc (by simp) _⟩
  all_goals rw [E.out]; simp_all

set_option maxRecDepth 100000 in
set_option maxHeartbeats 1000000 in
theorem eqDone (a b c d a' b' c' d' : Int) (w : World) : Calls Tryz.prog 108 #[.agg #[.int .i64 a, .int .i64 b, .int .i64 c, .int .i64 d], .agg #[.int .i64 a', .int .i64 b', .int .i64 c', .int .i64 d']] w fun e w' => e = .returned (.bool (eqQ (a, b, c, d) (a', b', c', d'))) ∧ Below w.heap.size w w' := by
  have E : Hid (eqQ (a, b, c, d) (a', b', c', d') = ((a == a' && b == b') && c == c' && d == d')) := rfl
  generalize eqQ (a, b, c, d) (a', b', c', d') = r at E ⊢
  obtain ⟨W, hW⟩ : ∃ W, W = (w.alloc (.cells #[.int .i64 a, .int .i64 b, .int .i64 c, .int .i64 d] 94)).alloc (.cells #[.int .i64 a', .int .i64 b', .int .i64 c', .int .i64 d'] 94) := ⟨_, rfl⟩
  have BW : Hid (Below w.heap.size w W) := by
    show Below _ _ _
    rw [hW]; exact ((Below.refl _ _).alloc (Nat.le_refl _) _).alloc (by simp) _
  have G0 : Hid (Blk W w.heap.size #[.int .i64 a, .int .i64 b, .int .i64 c, .int .i64 d] 94) := by show Blk _ _ _ _; rw [hW]; exact (Blk.new _ _ _).alloc _
  have G1 : Hid (Blk W (w.heap.size + 1) #[.int .i64 a', .int .i64 b', .int .i64 c', .int .i64 d'] 94) := by show Blk _ _ _ _; rw [hW]; exact Blk.new2 _ _ _ _
  have HW : Hid (W = _) := hW
  clear hW
  go_enter Tryz.func108, Tryz.ntmps108
  go_wp2_with fail
  rw [← HW.out]
  refine (eqReqG a b a' b' W).mono ?_
  rintro e w1 ⟨rfl, b1⟩
  have B1 : Hid (Below w.heap.size w w1) := BW.out.trans (b1.mono BW.out.size)
  obtain ⟨q0, q1, q2, q3⟩ := (G0.out.keep b1).cells4
  obtain ⟨r0, r1, r2, r3⟩ := (G1.out.keep b1).cells4
  clear b1
  generalize (a == a' && b == b') = x at E ⊢
  cases x with
  | false =>
    have F : Hid (r = false) := by show _ = _; rw [E.out]; rfl
    go_wp2_with fail
    go_ret
    exact ⟨ret_bool F.out.symm, B1.out⟩
  | true =>
    cases hc : (c != c') with
    | true =>
      have F : Hid (r = false) := by
        show _ = _
        have : (c == c') = false := by simpa using hc
        rw [E.out, this]; rfl
      go_wp2_with fail
      go_ret
      exact ⟨ret_bool F.out.symm, B1.out⟩
    | false =>
      have hc2 : (c == c') = true := by simpa using hc
      cases hd : (d != d') with
      | true =>
        have F : Hid (r = false) := by
          show _ = _
          have : (d == d') = false := by simpa using hd
          rw [E.out, this]; simp
        go_wp2_with fail
        go_ret
        exact ⟨ret_bool F.out.symm, B1.out⟩
      | false =>
        have F : Hid (r = true) := by
          show _ = _
          have : (d == d') = true := by simpa using hd
          rw [E.out, this, hc2]; rfl
        go_wp2_with fail
        go_ret
        exact ⟨ret_bool F.out.symm, B1.out⟩

set_option maxHeartbeats 1000000 in
theorem eqDoneS (a1 a2 : Option Addr) (c1 c2 : Nat) (xs ys : List Q4) (w : World) (h1 : Sl4 w a1 xs) (h2 : Sl4 w a2 ys) (l1 : xs.length ≤ 2 ^ 40) (l2 : ys.length ≤ 2 ^ 40) :
    Calls Tryz.prog 63 #[.slice a1 xs.length c1, .slice a2 ys.length c2] w fun e w' => e = .returned (.bool (xs == ys)) ∧ Below w.heap.size w w' := by
  have H1 : Hid (Sl4 w a1 xs) := h1
  have H2 : Hid (Sl4 w a2 ys) := h2
  clear h1 h2
  by_cases hl : xs.length = ys.length
  · have hl' : ((xs.length : Int) != (ys.length : Int)) = false := by simp [hl]
    have Hl : Hid (xs.length = ys.length) := hl
    clear hl
    go_enter Tryz.func63, Tryz.ntmps63
    go_wp2
    go_loopw [5] (fun i wr => ∃ k : Nat, k ≤ xs.length ∧ i = .int .i64 k ∧ Hid (xs.take k = ys.take k) ∧ Below w.heap.size w wr) (fun i _ => xs.length - (intOf i).toNat)
    case atStart => exact ⟨0, Nat.zero_le _, rfl, rfl, Below.refl _ _⟩
    case round =>
      obtain ⟨k, hk, rfl, hE, hB⟩ := hrel
      by_cases hlt : k < xs.length
      · have hlt2 : k < ys.length := by rw [← Hl.out]; exact hlt
        rcases H1.out with h | ⟨b1, o1, rfl, h1⟩
        · subst h; simp at hlt
        rcases H2.out with h | ⟨b2, o2, rfl, h2⟩
        · subst h; simp at hlt2
        have H1' : Hid (At4 w b1 o1 xs) := h1
        have H2' : Hid (At4 w b2 o2 ys) := h2
        clear h1 h2
        have HT : Hid ((xs.take (k + 1) = ys.take (k + 1)) ↔ (xs.getD k q0 = ys.getD k q0)) := by
          unfold Hid; rw [take_succ_eqG q0 hlt hlt2]; exact ⟨fun h => h.2, fun h => ⟨hE, h⟩⟩
        obtain ⟨p, hp⟩ : ∃ p, p = xs.getD k q0 := ⟨_, rfl⟩
        obtain ⟨q, hq⟩ : ∃ q, q = ys.getD k q0 := ⟨_, rfl⟩
        obtain ⟨ca, cb, cc, cd⟩ := H1'.out.2 k hlt
        obtain ⟨da, db, dc, dd⟩ := H2'.out.2 k hlt2
        rw [← hB.cell H1'.out.1, ← hp] at ca cb cc cd
        rw [← hB.cell H2'.out.1, ← hq] at da db dc dd
        have HP : Hid (p = xs.getD k q0) := hp
        have HQ : Hid (q = ys.getD k q0) := hq
        clear hp hq
        obtain ⟨p1, p2, p3, p4⟩ := p
        obtain ⟨q1, q2, q3, q4⟩ := q
        have hsz := hB.size
        have HB : Hid (Below w.heap.size w wr) := hB
        clear hB
        by_cases hpq : eqQ (p1, p2, p3, p4) (q1, q2, q3, q4) = true
        · have N : Hid (xs.take (k + 1) = ys.take (k + 1)) := by
            show _ = _
            apply HT.out.2
            rw [← HP.out, ← HQ.out]
            exact (eqQ_iff _ _).1 hpq
          go_wp2
          go_region_with (go_at_call 108; refine (eqDone _ _ _ _ _ _ _ _ _).mono ?_; rintro e w' ⟨rfl, hb⟩)
          all_goals
            go_wp2
            go_roundw
            case rel => exact ⟨k + 1, by omega, by go_num, N, HB.out.trans (Below.trans ((Below.refl _ _).drew) (hb.mono (by simpa using hsz)))⟩
            case measure => simp [intOf]; omega
        · have hpq' : eqQ (p1, p2, p3, p4) (q1, q2, q3, q4) = false := by simpa using hpq
          have F : Hid ((xs == ys) = false) := by
            show _ = _
            apply ne_of_getDG (k := k) q0
            rw [← HP.out, ← HQ.out]
            exact (eqQ_false _ _).1 hpq'
          clear hpq
          go_wp2
          go_region_with (go_at_call 108; refine (eqDone _ _ _ _ _ _ _ _ _).mono ?_; rintro e w' ⟨rfl, hb⟩)
          all_goals
            go_wp2
            go_ret
            exact ⟨ret_bool F.out.symm, HB.out.trans (Below.trans ((Below.refl _ _).drew) (hb.mono (by simpa using hsz)))⟩
      · go_wp2
        go_ret
        have : k = xs.length := by omega
        subst this
        refine ⟨ret_bool ?_, hB⟩
        have h := hE
        unfold Hid at h
        rw [List.take_length] at h
        have h3 := Hl.out
        rw [List.take_of_length_le (by omega)] at h
        simp [h]
  · have hl' : ((xs.length : Int) != (ys.length : Int)) = true := by simp; omega
    go_enter Tryz.func63, Tryz.ntmps63
    go_wp2
    go_ret
    refine ⟨ret_bool ?_, Below.refl _ _⟩
    symm
    simp
    intro h; exact hl (by rw [h])
end Go.Proofs.YtbecdihfopjlhaaGreatDoor.Own
