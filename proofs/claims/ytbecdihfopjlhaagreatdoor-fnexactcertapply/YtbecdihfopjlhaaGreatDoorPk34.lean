/-
  Own texts, bundled: EqR, EqP, RunEq.
-/
import Derived.Test.YtbecdihfopjlhaaGreatDoorPk1
import Derived.Test.YtbecdihfopjlhaaGreatDoorPk3
namespace Go.Proofs.YtbecdihfopjlhaaGreatDoor.Own
open Go.RowKit

set_option maxHeartbeats 400000 in
theorem eqRead (a b c d : Int) (w : World) : Calls Tryz.prog 132 #[.agg #[.int .i64 a, .int .i64 b], .agg #[.int .i64 c, .int .i64 d]] w fun e w' => e = .returned (.bool (a == c && b == d)) ∧ Below w.heap.size w w' := by
  go_enter Tryz.func132, Tryz.ntmps132
  go_wp2
  all_goals go_ret
  all_goals refine ⟨ret_bool ?_, ((Below.refl _ _).alloc (Nat.le_refl _) _).alloc (by simp) _⟩
  all_goals simp_all

set_option maxHeartbeats 1000000 in
theorem eqReadS (a1 a2 : Option Addr) (c1 c2 : Nat) (xs ys : List (Int × Int)) (w : World) (h1 : Sl w a1 xs) (h2 : Sl w a2 ys) (l1 : xs.length ≤ 2 ^ 40) (l2 : ys.length ≤ 2 ^ 40) :
    Calls Tryz.prog 109 #[.slice a1 xs.length c1, .slice a2 ys.length c2] w fun e w' => e = .returned (.bool (xs == ys)) ∧ Below w.heap.size w w' := by
  have H1 : Hid (Sl w a1 xs) := h1
  have H2 : Hid (Sl w a2 ys) := h2
  clear h1 h2
  by_cases hl : xs.length = ys.length
  · have hl' : ((xs.length : Int) != (ys.length : Int)) = false := by simp [hl]
    have Hl : Hid (xs.length = ys.length) := hl
    clear hl
    go_enter Tryz.func109, Tryz.ntmps109
    go_wp2
    go_loopw [5] (fun i wr => ∃ k : Nat, k ≤ xs.length ∧ i = .int .i64 k ∧ Hid (xs.take k = ys.take k) ∧ Below w.heap.size w wr) (fun i _ => xs.length - (intOf i).toNat)
    case atStart => exact ⟨0, Nat.zero_le _, rfl, rfl, Below.refl _ _⟩
    case round =>
      obtain ⟨k, hk, rfl, hE, hB⟩ := hrel
      by_cases hlt : k < xs.length
      · have hlt2 : k < ys.length := by rw [← Hl.out]; exact hlt
        rcases H1.out with h | ⟨b1, o1, rfl, h1⟩
        · subst h; simp at hlt
        rcases H2.out with h | ⟨b2, o2, rfl, h2⟩
        · subst h; simp at hlt2
        have H1' : Hid (BoxAt w b1 o1 xs) := h1
        have H2' : Hid (BoxAt w b2 o2 ys) := h2
        clear h1 h2
        have HT : Hid ((xs.take (k + 1) = ys.take (k + 1)) ↔ (xs.getD k (0, 0) = ys.getD k (0, 0))) := by
          unfold Hid; rw [take_succ_eq hlt hlt2]; exact ⟨fun h => h.2, fun h => ⟨hE, h⟩⟩
        obtain ⟨p, hp⟩ : ∃ p, p = xs.getD k (0, 0) := ⟨_, rfl⟩
        obtain ⟨q, hq⟩ : ∃ q, q = ys.getD k (0, 0) := ⟨_, rfl⟩
        have ca := (H1'.out.2 k hlt).1
        have cb := (H1'.out.2 k hlt).2
        have cc := (H2'.out.2 k hlt2).1
        have cd := (H2'.out.2 k hlt2).2
        rw [← hB.cell H1'.out.1, ← hp] at ca cb
        rw [← hB.cell H2'.out.1, ← hq] at cc cd
        have HP : Hid (p = xs.getD k (0, 0)) := hp
        have HQ : Hid (q = ys.getD k (0, 0)) := hq
        clear hp hq
        obtain ⟨p1, p2⟩ := p
        obtain ⟨q1, q2⟩ := q
        have hsz := hB.size
        by_cases hpq : (p1 == q1 && p2 == q2) = true
        · go_wp2
          go_region_with (go_at_call 132; refine (eqRead _ _ _ _ _).mono ?_; rintro e w' ⟨rfl, hb⟩)
          all_goals
            go_wp2
            go_roundw
            case rel =>
              refine ⟨k + 1, by omega, by go_num, ?_, hB.trans (Below.trans ((Below.refl _ _).drew) (hb.mono (by simpa using hsz)))⟩
              apply HT.out.2
              rw [← HP.out, ← HQ.out]
              simp at hpq
              rw [hpq.1, hpq.2]
            case measure => simp [intOf]; omega
        · have hpq' : (p1 == q1 && p2 == q2) = false := by simpa using hpq
          clear hpq
          go_wp2
          go_region_with (go_at_call 132; refine (eqRead _ _ _ _ _).mono ?_; rintro e w' ⟨rfl, hb⟩)
          all_goals
            go_wp2
            go_ret
            refine ⟨ret_bool ?_, hB.trans (Below.trans ((Below.refl _ _).drew) (hb.mono (by simpa using hsz)))⟩
            symm
            apply ne_of_getD (k := k)
            rw [← HP.out, ← HQ.out]
            intro h
            simp at hpq'
            simp at h
            exact hpq' h.1 h.2
      · go_wp2
        go_ret
        have : k = xs.length := by omega
        subst this
        refine ⟨ret_bool ?_, hB⟩
        have h := hE
        unfold Hid at h
        rw [List.take_length] at h
        have h3 := Hl.out
        rw [List.take_of_length_le (by omega)] at h
        simp [h]
  · have hl' : ((xs.length : Int) != (ys.length : Int)) = true := by simp; omega
    go_enter Tryz.func109, Tryz.ntmps109
    go_wp2
    go_ret
    refine ⟨ret_bool ?_, Below.refl _ _⟩
    symm
    simp
    intro h; exact hl (by rw [h])
end Go.Proofs.YtbecdihfopjlhaaGreatDoor.Own

namespace Go.Proofs.YtbecdihfopjlhaaGreatDoor.Own
open Go.RowKit

set_option maxHeartbeats 400000 in
theorem eqPut (a b c d : Int) (w : World) : Calls Tryz.prog 133 #[.agg #[.int .i64 a, .int .i64 b], .agg #[.int .i64 c, .int .i64 d]] w fun e w' => e = .returned (.bool (a == c && b == d)) ∧ Below w.heap.size w w' := by
  go_enter Tryz.func133, Tryz.ntmps133
  go_wp2
  all_goals go_ret
  all_goals refine ⟨ret_bool ?_, ((Below.refl _ _).alloc (Nat.le_refl _) _).alloc (by simp) _⟩
  all_goals simp_all

set_option maxHeartbeats 1000000 in
theorem eqPutS (a1 a2 : Option Addr) (c1 c2 : Nat) (xs ys : List (Int × Int)) (w : World) (h1 : Sl w a1 xs) (h2 : Sl w a2 ys) (l1 : xs.length ≤ 2 ^ 40) (l2 : ys.length ≤ 2 ^ 40) :
    Calls Tryz.prog 110 #[.slice a1 xs.length c1, .slice a2 ys.length c2] w fun e w' => e = .returned (.bool (xs == ys)) ∧ Below w.heap.size w w' := by
  have H1 : Hid (Sl w a1 xs) := h1
  have H2 : Hid (Sl w a2 ys) := h2
  clear h1 h2
  by_cases hl : xs.length = ys.length
  · have hl' : ((xs.length : Int) != (ys.length : Int)) = false := by simp [hl]
    have Hl : Hid (xs.length = ys.length) := hl
    clear hl
    go_enter Tryz.func110, Tryz.ntmps110
    go_wp2
    go_loopw [5] (fun i wr => ∃ k : Nat, k ≤ xs.length ∧ i = .int .i64 k ∧ Hid (xs.take k = ys.take k) ∧ Below w.heap.size w wr) (fun i _ => xs.length - (intOf i).toNat)
    case atStart => exact ⟨0, Nat.zero_le _, rfl, rfl, Below.refl _ _⟩
    case round =>
      obtain ⟨k, hk, rfl, hE, hB⟩ := hrel
      by_cases hlt : k < xs.length
      · have hlt2 : k < ys.length := by rw [← Hl.out]; exact hlt
        rcases H1.out with h | ⟨b1, o1, rfl, h1⟩
        · subst h; simp at hlt
        rcases H2.out with h | ⟨b2, o2, rfl, h2⟩
        · subst h; simp at hlt2
        have H1' : Hid (BoxAt w b1 o1 xs) := h1
        have H2' : Hid (BoxAt w b2 o2 ys) := h2
        clear h1 h2
        have HT : Hid ((xs.take (k + 1) = ys.take (k + 1)) ↔ (xs.getD k (0, 0) = ys.getD k (0, 0))) := by
          unfold Hid; rw [take_succ_eq hlt hlt2]; exact ⟨fun h => h.2, fun h => ⟨hE, h⟩⟩
        obtain ⟨p, hp⟩ : ∃ p, p = xs.getD k (0, 0) := ⟨_, rfl⟩
        obtain ⟨q, hq⟩ : ∃ q, q = ys.getD k (0, 0) := ⟨_, rfl⟩
        have ca := (H1'.out.2 k hlt).1
        have cb := (H1'.out.2 k hlt).2
        have cc := (H2'.out.2 k hlt2).1
        have cd := (H2'.out.2 k hlt2).2
        rw [← hB.cell H1'.out.1, ← hp] at ca cb
        rw [← hB.cell H2'.out.1, ← hq] at cc cd
        have HP : Hid (p = xs.getD k (0, 0)) := hp
        have HQ : Hid (q = ys.getD k (0, 0)) := hq
        clear hp hq
        obtain ⟨p1, p2⟩ := p
        obtain ⟨q1, q2⟩ := q
        have hsz := hB.size
        by_cases hpq : (p1 == q1 && p2 == q2) = true
        · go_wp2
          go_region_with (go_at_call 133; refine (eqPut _ _ _ _ _).mono ?_; rintro e w' ⟨rfl, hb⟩)
          all_goals
            go_wp2
            go_roundw
            case rel =>
              refine ⟨k + 1, by omega, by go_num, ?_, hB.trans (Below.trans ((Below.refl _ _).drew) (hb.mono (by simpa using hsz)))⟩
              apply HT.out.2
              rw [← HP.out, ← HQ.out]
              simp at hpq
              rw [hpq.1, hpq.2]
            case measure => simp [intOf]; omega
        · have hpq' : (p1 == q1 && p2 == q2) = false := by simpa using hpq
          clear hpq
          go_wp2
          go_region_with (go_at_call 133; refine (eqPut _ _ _ _ _).mono ?_; rintro e w' ⟨rfl, hb⟩)
          all_goals
            go_wp2
            go_ret
            refine ⟨ret_bool ?_, hB.trans (Below.trans ((Below.refl _ _).drew) (hb.mono (by simpa using hsz)))⟩
            symm
            apply ne_of_getD (k := k)
            rw [← HP.out, ← HQ.out]
            intro h
            simp at hpq'
            simp at h
            exact hpq' h.1 h.2
      · go_wp2
        go_ret
        have : k = xs.length := by omega
        subst this
        refine ⟨ret_bool ?_, hB⟩
        have h := hE
        unfold Hid at h
        rw [List.take_length] at h
        have h3 := Hl.out
        rw [List.take_of_length_le (by omega)] at h
        simp [h]
  · have hl' : ((xs.length : Int) != (ys.length : Int)) = true := by simp; omega
    go_enter Tryz.func110, Tryz.ntmps110
    go_wp2
    go_ret
    refine ⟨ret_bool ?_, Below.refl _ _⟩
    symm
    simp
    intro h; exact hl (by rw [h])
end Go.Proofs.YtbecdihfopjlhaaGreatDoor.Own

namespace Go.Proofs.YtbecdihfopjlhaaGreatDoor.Own
open Go.RowKit
set_option linter.unusedVariables false
set_option linter.unusedSimpArgs false

set_option maxRecDepth 100000 in
set_option maxHeartbeats 1000000 in
theorem eqRun (a1 a2 b1 b2 : Option Addr) (c1 c2 d1 d2 : Nat) (xs ys zs us : List P2) (v k v' k' : Int) (w : World) (h1 : Sl w a1 xs) (h2 : Sl w a2 ys) (h3 : Sl w b1 zs) (h4 : Sl w b2 us)
    (n1 : xs.length ≤ 2 ^ 40) (n2 : ys.length ≤ 2 ^ 40) (n3 : zs.length ≤ 2 ^ 40) (n4 : us.length ≤ 2 ^ 40) (he : xs = zs ∧ ys = us ∧ v = v' ∧ k = k') :
    Calls Tryz.prog 65 #[.agg #[.slice a1 xs.length c1, .slice a2 ys.length c2, .int .i64 v, .int .i64 k], .agg #[.slice b1 zs.length d1, .slice b2 us.length d2, .int .i64 v', .int .i64 k']] w fun e w' => e = .returned (.bool true) ∧ Below w.heap.size w w' := by
  obtain ⟨rfl, rfl, rfl, rfl⟩ := he
  have H1 : Hid (Sl w a1 xs) := h1
  have H2 : Hid (Sl w a2 ys) := h2
  have H3 : Hid (Sl w b1 xs) := h3
  have H4 : Hid (Sl w b2 ys) := h4
  clear h1 h2 h3 h4
  obtain ⟨W, hW⟩ : ∃ W, W = (w.alloc (.cells #[.slice a1 xs.length c1, .slice a2 ys.length c2, .int .i64 v, .int .i64 k] 37)).alloc (.cells #[.slice b1 xs.length d1, .slice b2 ys.length d2, .int .i64 v, .int .i64 k] 37) := ⟨_, rfl⟩
  have hbW : Hid (Below w.heap.size w W) := by
    show Below _ _ _
    rw [hW]; exact ((Below.refl _ _).alloc (Nat.le_refl _) _).alloc (by simp) _
  have hsW : Hid (W.heap.size = w.heap.size + 2) := by show _ = _; rw [hW]; simp
  have g0 : Hid (W.heap[w.heap.size]? = some (.cells #[.slice a1 xs.length c1, .slice a2 ys.length c2, .int .i64 v, .int .i64 k] 37 (0, 0))) := by
    show _ = _
    rw [hW]; exact heap_new1 _ _ _
  have g1 : Hid (W.heap[w.heap.size + 1]? = some (.cells #[.slice b1 xs.length d1, .slice b2 ys.length d2, .int .i64 v, .int .i64 k] 37 (0, 0))) := by
    show _ = _
    rw [hW]; exact heap_new2 _ _ _
  have HW : Hid (W = _) := hW
  clear hW
  go_enter Tryz.func65, Tryz.ntmps65
  go_wp2_with fail
  rw [← HW.out]
  refine (eqReadS a1 b1 c1 d1 xs xs W (H1.out.below hbW.out) (H3.out.below hbW.out) n1 n1).mono ?_
  rintro e w1 ⟨rfl, b1'⟩
  rw [show (xs == xs) = true from by simp]
  have B1 : Hid (Below w.heap.size w w1) := hbW.out.trans (b1'.mono hbW.out.size)
  have C0 : Hid (∀ o, w1.cell? ⟨w.heap.size, o, none⟩ = W.cell? ⟨w.heap.size, o, none⟩) := fun o => b1'.cell (p := ⟨w.heap.size, o, none⟩) (by show w.heap.size < _; have := hsW.out; omega)
  have C1 : Hid (∀ o, w1.cell? ⟨w.heap.size + 1, o, none⟩ = W.cell? ⟨w.heap.size + 1, o, none⟩) := fun o => b1'.cell (p := ⟨w.heap.size + 1, o, none⟩) (by show w.heap.size + 1 < _; have := hsW.out; omega)
  have S1 : Hid (W.heap.size ≤ w1.heap.size) := b1'.size
  have q0 : w1.cell? ⟨w.heap.size, 1, none⟩ = some (.slice a2 ys.length c2) := by rw [C0.out, cell_heap g0.out]; rfl
  have q1 : w1.cell? ⟨w.heap.size + 1, 1, none⟩ = some (.slice b2 ys.length d2) := by rw [C1.out, cell_heap g1.out]; rfl
  clear b1'
  go_wp2_with fail
  refine (eqPutS a2 b2 c2 d2 ys ys w1 (H2.out.below B1.out) (H4.out.below B1.out) n2 n2).mono ?_
  rintro e w2 ⟨rfl, b2'⟩
  rw [show (ys == ys) = true from by simp]
  have B2 : Hid (Below w.heap.size w w2) := B1.out.trans (b2'.mono B1.out.size)
  have D0 : Hid (∀ o, w2.cell? ⟨w.heap.size, o, none⟩ = W.cell? ⟨w.heap.size, o, none⟩) := fun o => (b2'.cell (p := ⟨w.heap.size, o, none⟩) (by show w.heap.size < _; have := hsW.out; have := S1.out; omega)).trans (C0.out o)
  have D1 : Hid (∀ o, w2.cell? ⟨w.heap.size + 1, o, none⟩ = W.cell? ⟨w.heap.size + 1, o, none⟩) := fun o => (b2'.cell (p := ⟨w.heap.size + 1, o, none⟩) (by show w.heap.size + 1 < _; have := hsW.out; have := S1.out; omega)).trans (C1.out o)
  have p0 : w2.cell? ⟨w.heap.size, 2, none⟩ = some (.int .i64 v) := by rw [D0.out, cell_heap g0.out]; rfl
  have p1 : w2.cell? ⟨w.heap.size + 1, 2, none⟩ = some (.int .i64 v) := by rw [D1.out, cell_heap g1.out]; rfl
  have p2 : w2.cell? ⟨w.heap.size, 3, none⟩ = some (.int .i64 k) := by rw [D0.out, cell_heap g0.out]; rfl
  have p3 : w2.cell? ⟨w.heap.size + 1, 3, none⟩ = some (.int .i64 k) := by rw [D1.out, cell_heap g1.out]; rfl
  have ev : (v != v) = false := by simp
  have ek : (k != k) = false := by simp
  clear b2' q0 q1
  go_wp2
  go_ret
  exact ⟨rfl, B2.out⟩
end Go.Proofs.YtbecdihfopjlhaaGreatDoor.Own
