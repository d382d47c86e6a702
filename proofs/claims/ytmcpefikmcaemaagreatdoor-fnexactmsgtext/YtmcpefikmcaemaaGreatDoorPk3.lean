/-
  Own texts, bundled: EqR, EqP, OkB, Base4.
-/
import Derived.Test.YtmcpefikmcaemaaGreatDoorPk1
import Derived.Test.YtmcpefikmcaemaaGreatDoorPk2
namespace Go.Proofs.YtmcpefikmcaemaaGreatDoor.Own
open Go.RowKit

set_option maxHeartbeats 400000 in
theorem eqRead (a b c d : Int) (w : World) : Calls Tryz.prog 161 #[.agg #[.int .i64 a, .int .i64 b], .agg #[.int .i64 c, .int .i64 d]] w fun e w' => e = .returned (.bool (a == c && b == d)) ∧ Below w.heap.size w w' := by
  go_enter Tryz.func161, Tryz.ntmps161
  go_wp2
  all_goals go_ret
  all_goals refine ⟨ret_bool ?_, ((Below.refl _ _).alloc (Nat.le_refl _) _).alloc (by simp) _⟩
  all_goals simp_all

set_option maxHeartbeats 1000000 in
theorem eqReadS (a1 a2 : Option Addr) (c1 c2 : Nat) (xs ys : List (Int × Int)) (w : World) (h1 : Sl w a1 xs) (h2 : Sl w a2 ys) (l1 : xs.length ≤ 2 ^ 40) (l2 : ys.length ≤ 2 ^ 40) :
    Calls Tryz.prog 135 #[.slice a1 xs.length c1, .slice a2 ys.length c2] w fun e w' => e = .returned (.bool (xs == ys)) ∧ Below w.heap.size w w' := by
  have H1 : Hid (Sl w a1 xs) := h1
  have H2 : Hid (Sl w a2 ys) := h2
  clear h1 h2
  by_cases hl : xs.length = ys.length
  · have hl' : ((xs.length : Int) != (ys.length : Int)) = false := by simp [hl]
    have Hl : Hid (xs.length = ys.length) := hl
    clear hl
    go_enter Tryz.func135, Tryz.ntmps135
    go_wp2
    go_loopw [5] (fun i wr => ∃ k : Nat, k ≤ xs.length ∧ i = .int .i64 k ∧ Hid (xs.take k = ys.take k) ∧ Below w.heap.size w wr) (fun i _ => xs.length - (intOf i).toNat)
    case atStart => exact ⟨0, Nat.zero_le _, rfl, rfl, Below.refl _ _⟩
    case round =>
      obtain ⟨k, hk, rfl, hE, hB⟩ := hrel
      by_cases hlt : k < xs.length
      · have hlt2 : k < ys.length := by rw [← Hl.out]; exact hlt
        rcases H1.out with h | ⟨b1, o1, rfl, h1⟩
        · subst h; simp at hlt
        rcases H2.out with h | ⟨b2, o2, rfl, h2⟩
        · subst h; simp at hlt2
        have H1' : Hid (BoxAt w b1 o1 xs) := h1
        have H2' : Hid (BoxAt w b2 o2 ys) := h2
        clear h1 h2
        have HT : Hid ((xs.take (k + 1) = ys.take (k + 1)) ↔ (xs.getD k (0, 0) = ys.getD k (0, 0))) := by
          unfold Hid; rw [take_succ_eq hlt hlt2]; exact ⟨fun h => h.2, fun h => ⟨hE, h⟩⟩
        obtain ⟨p, hp⟩ : ∃ p, p = xs.getD k (0, 0) := ⟨_, rfl⟩
        obtain ⟨q, hq⟩ : ∃ q, q = ys.getD k (0, 0) := ⟨_, rfl⟩
        have ca := (H1'.out.2 k hlt).1
        have cb := (H1'.out.2 k hlt).2
        have cc := (H2'.out.2 k hlt2).1
        have cd := (H2'.out.2 k hlt2).2
        rw [← hB.cell H1'.out.1, ← hp] at ca cb
        rw [← hB.cell H2'.out.1, ← hq] at cc cd
        have HP : Hid (p = xs.getD k (0, 0)) := hp
        have HQ : Hid (q = ys.getD k (0, 0)) := hq
        clear hp hq
        obtain ⟨p1, p2⟩ := p
        obtain ⟨q1, q2⟩ := q
        have hsz := hB.size
        by_cases hpq : (p1 == q1 && p2 == q2) = true
        · go_wp2
          go_region_with (go_at_call 161; refine (eqRead _ _ _ _ _).mono ?_; rintro e w' ⟨rfl, hb⟩)
          all_goals
            go_wp2
            go_roundw
            case rel =>
              refine ⟨k + 1, by omega, by go_num, ?_, hB.trans (Below.trans ((Below.refl _ _).drew) (hb.mono (by simpa using hsz)))⟩
              apply HT.out.2
              rw [← HP.out, ← HQ.out]
              simp at hpq
              rw [hpq.1, hpq.2]
            case measure => simp [intOf]; omega
        · have hpq' : (p1 == q1 && p2 == q2) = false := by simpa using hpq
          clear hpq
          go_wp2
          go_region_with (go_at_call 161; refine (eqRead _ _ _ _ _).mono ?_; rintro e w' ⟨rfl, hb⟩)
          all_goals
            go_wp2
            go_ret
            refine ⟨ret_bool ?_, hB.trans (Below.trans ((Below.refl _ _).drew) (hb.mono (by simpa using hsz)))⟩
            symm
            apply ne_of_getD (k := k)
            rw [← HP.out, ← HQ.out]
            intro h
            simp at hpq'
            simp at h
            exact hpq' h.1 h.2
      · go_wp2
        go_ret
        have : k = xs.length := by omega
        subst this
        refine ⟨ret_bool ?_, hB⟩
        have h := hE
        unfold Hid at h
        rw [List.take_length] at h
        have h3 := Hl.out
        rw [List.take_of_length_le (by omega)] at h
        simp [h]
  · have hl' : ((xs.length : Int) != (ys.length : Int)) = true := by simp; omega
    go_enter Tryz.func135, Tryz.ntmps135
    go_wp2
    go_ret
    refine ⟨ret_bool ?_, Below.refl _ _⟩
    symm
    simp
    intro h; exact hl (by rw [h])
end Go.Proofs.YtmcpefikmcaemaaGreatDoor.Own

namespace Go.Proofs.YtmcpefikmcaemaaGreatDoor.Own
open Go.RowKit

set_option maxHeartbeats 400000 in
theorem eqPut (a b c d : Int) (w : World) : Calls Tryz.prog 162 #[.agg #[.int .i64 a, .int .i64 b], .agg #[.int .i64 c, .int .i64 d]] w fun e w' => e = .returned (.bool (a == c && b == d)) ∧ Below w.heap.size w w' := by
  go_enter Tryz.func162, Tryz.ntmps162
  go_wp2
  all_goals go_ret
  all_goals refine ⟨ret_bool ?_, ((Below.refl _ _).alloc (Nat.le_refl _) _).alloc (by simp) _⟩
  all_goals simp_all

set_option maxHeartbeats 1000000 in
theorem eqPutS (a1 a2 : Option Addr) (c1 c2 : Nat) (xs ys : List (Int × Int)) (w : World) (h1 : Sl w a1 xs) (h2 : Sl w a2 ys) (l1 : xs.length ≤ 2 ^ 40) (l2 : ys.length ≤ 2 ^ 40) :
    Calls Tryz.prog 136 #[.slice a1 xs.length c1, .slice a2 ys.length c2] w fun e w' => e = .returned (.bool (xs == ys)) ∧ Below w.heap.size w w' := by
  have H1 : Hid (Sl w a1 xs) := h1
  have H2 : Hid (Sl w a2 ys) := h2
  clear h1 h2
  by_cases hl : xs.length = ys.length
  · have hl' : ((xs.length : Int) != (ys.length : Int)) = false := by simp [hl]
    have Hl : Hid (xs.length = ys.length) := hl
    clear hl
    go_enter Tryz.func136, Tryz.ntmps136
    go_wp2
    go_loopw [5] (fun i wr => ∃ k : Nat, k ≤ xs.length ∧ i = .int .i64 k ∧ Hid (xs.take k = ys.take k) ∧ Below w.heap.size w wr) (fun i _ => xs.length - (intOf i).toNat)
    case atStart => exact ⟨0, Nat.zero_le _, rfl, rfl, Below.refl _ _⟩
    case round =>
      obtain ⟨k, hk, rfl, hE, hB⟩ := hrel
      by_cases hlt : k < xs.length
      · have hlt2 : k < ys.length := by rw [← Hl.out]; exact hlt
        rcases H1.out with h | ⟨b1, o1, rfl, h1⟩
        · subst h; simp at hlt
        rcases H2.out with h | ⟨b2, o2, rfl, h2⟩
        · subst h; simp at hlt2
        have H1' : Hid (BoxAt w b1 o1 xs) := h1
        have H2' : Hid (BoxAt w b2 o2 ys) := h2
        clear h1 h2
        have HT : Hid ((xs.take (k + 1) = ys.take (k + 1)) ↔ (xs.getD k (0, 0) = ys.getD k (0, 0))) := by
          unfold Hid; rw [take_succ_eq hlt hlt2]; exact ⟨fun h => h.2, fun h => ⟨hE, h⟩⟩
        obtain ⟨p, hp⟩ : ∃ p, p = xs.getD k (0, 0) := ⟨_, rfl⟩
        obtain ⟨q, hq⟩ : ∃ q, q = ys.getD k (0, 0) := ⟨_, rfl⟩
        have ca := (H1'.out.2 k hlt).1
        have cb := (H1'.out.2 k hlt).2
        have cc := (H2'.out.2 k hlt2).1
        have cd := (H2'.out.2 k hlt2).2
        rw [← hB.cell H1'.out.1, ← hp] at ca cb
        rw [← hB.cell H2'.out.1, ← hq] at cc cd
        have HP : Hid (p = xs.getD k (0, 0)) := hp
        have HQ : Hid (q = ys.getD k (0, 0)) := hq
        clear hp hq
        obtain ⟨p1, p2⟩ := p
        obtain ⟨q1, q2⟩ := q
        have hsz := hB.size
        by_cases hpq : (p1 == q1 && p2 == q2) = true
        · go_wp2
          go_region_with (go_at_call 162; refine (eqPut _ _ _ _ _).mono ?_; rintro e w' ⟨rfl, hb⟩)
          all_goals
            go_wp2
            go_roundw
            case rel =>
              refine ⟨k + 1, by omega, by go_num, ?_, hB.trans (Below.trans ((Below.refl _ _).drew) (hb.mono (by simpa using hsz)))⟩
              apply HT.out.2
              rw [← HP.out, ← HQ.out]
              simp at hpq
              rw [hpq.1, hpq.2]
            case measure => simp [intOf]; omega
        · have hpq' : (p1 == q1 && p2 == q2) = false := by simpa using hpq
          clear hpq
          go_wp2
          go_region_with (go_at_call 162; refine (eqPut _ _ _ _ _).mono ?_; rintro e w' ⟨rfl, hb⟩)
          all_goals
            go_wp2
            go_ret
            refine ⟨ret_bool ?_, hB.trans (Below.trans ((Below.refl _ _).drew) (hb.mono (by simpa using hsz)))⟩
            symm
            apply ne_of_getD (k := k)
            rw [← HP.out, ← HQ.out]
            intro h
            simp at hpq'
            simp at h
            exact hpq' h.1 h.2
      · go_wp2
        go_ret
        have : k = xs.length := by omega
        subst this
        refine ⟨ret_bool ?_, hB⟩
        have h := hE
        unfold Hid at h
        rw [List.take_length] at h
        have h3 := Hl.out
        rw [List.take_of_length_le (by omega)] at h
        simp [h]
  · have hl' : ((xs.length : Int) != (ys.length : Int)) = true := by simp; omega
    go_enter Tryz.func136, Tryz.ntmps136
    go_wp2
    go_ret
    refine ⟨ret_bool ?_, Below.refl _ _⟩
    symm
    simp
    intro h; exact hl (by rw [h])
end Go.Proofs.YtmcpefikmcaemaaGreatDoor.Own

namespace Go.Proofs.YtmcpefikmcaemaaGreatDoor.Own
open Go.RowKit

def numOk (n : Int) : Bool := decide (-1000000 ≤ n) && decide (n ≤ 1000000)
def boxOk1 (p : Int × Int) : Bool := decide (0 ≤ p.1) && decide (p.1 ≤ 1000000) && numOk p.2
def boxOk (xs : List (Int × Int)) : Bool := xs.length == 4 && xs.all boxOk1

set_option maxHeartbeats 400000 in
theorem l1Num (n : Int) (w : World) : Calls Tryz.prog 125 #[.int .i64 n] w fun e w' => e = .returned (.bool (numOk n)) ∧ w' = w := by
  have e : Hid (numOk n = (decide (-1000000 ≤ n) && decide (n ≤ 1000000))) := rfl
  by_cases h1 : -1000000 ≤ n
  · by_cases h2 : n ≤ 1000000
    all_goals
      go_enter Tryz.func125, Tryz.ntmps125
      go_wp2
      go_ret
      exact ⟨ret_bool (by rw [e.out]; simp [h1, h2]), rfl⟩
  · have h1' : n < -1000000 := by omega
    go_enter Tryz.func125, Tryz.ntmps125
    go_wp2
    go_ret
    exact ⟨ret_bool (by rw [e.out]; simp; omega), rfl⟩

set_option maxRecDepth 100000 in
set_option maxHeartbeats 1000000 in
theorem specOk (a : Option Addr) (c : Nat) (xs : List (Int × Int)) (w : World) (h : Sl w a xs) (hn : xs.length ≤ 2 ^ 40) :
    Calls Tryz.prog 137 #[.slice a xs.length c] w fun e w' => e = .returned (.bool (boxOk xs)) ∧ w' = w := by
  have e : Hid (boxOk xs = (xs.length == 4 && xs.all boxOk1)) := rfl
  have H1 : Hid (Sl w a xs) := h
  clear h
  by_cases hl : xs.length = 4
  · have hl' : ((xs.length : Int) != 4) = false := by simp [hl]
    have HL : Hid (xs.length = 4) := hl
    clear hl
    go_enter Tryz.func137, Tryz.ntmps137
    go_wp2
    go_loop [3] (fun i => ∃ k : Nat, k ≤ xs.length ∧ i = .int .i64 k ∧ Hid ((xs.take k).all boxOk1 = true)) (fun i => xs.length - (intOf i).toNat)
    case atStart => exact ⟨0, Nat.zero_le _, rfl, rfl⟩
    case round =>
      obtain ⟨k, hk, rfl, hA⟩ := hrel
      by_cases hlt : k < xs.length
      · rcases H1.out with h | ⟨b1, o1, rfl, h1⟩
        · subst h; simp at hlt
        obtain ⟨p, hp⟩ : ∃ p, p = xs.getD k (0, 0) := ⟨_, rfl⟩
        have ca := (h1.2 k hlt).1
        have cb := (h1.2 k hlt).2
        rw [← hp] at ca cb
        have HP : Hid (p = xs.getD k (0, 0)) := hp
        clear hp h1
        obtain ⟨p1, p2⟩ := p
        have fin : boxOk1 (p1, p2) = false → Hid (boxOk xs = false) := by
          intro h
          show boxOk xs = false
          rw [e.out, all_false (0, 0) hlt (by rw [← HP.out]; exact h)]; simp
        by_cases t1 : p1 < 0
        · have F := fin (by simp [boxOk1, show ¬ 0 ≤ p1 by omega])
          clear fin
          go_wp2
          go_ret
          exact ⟨ret_bool F.out.symm, rfl⟩
        · by_cases t2 : 1000000 < p1
          · have F := fin (by simp [boxOk1, show ¬ p1 ≤ 1000000 by omega])
            clear fin
            go_wp2
            go_ret
            exact ⟨ret_bool F.out.symm, rfl⟩
          · by_cases t3 : numOk p2 = true
            · have N : Hid ((xs.take (k + 1)).all boxOk1 = true) := by
                show _ = true
                rw [all_take_succ (0, 0) hlt, hA.out, ← HP.out]
                simp [boxOk1, t3]; omega
              clear fin
              go_wp2_with (go_at_call 125; refine (l1Num _ _).mono ?_; rintro e w' ⟨rfl, rfl⟩)
              go_round
              case rel => exact ⟨k + 1, by omega, by go_num, N⟩
              case measure => simp [intOf]; omega
            · have t3' : numOk p2 = false := by simpa using t3
              have F := fin (by simp [boxOk1, t3'])
              clear fin t3
              go_wp2_with (go_at_call 125; refine (l1Num _ _).mono ?_; rintro e w' ⟨rfl, rfl⟩)
              go_ret
              exact ⟨ret_bool F.out.symm, rfl⟩
      · go_wp2
        go_ret
        have : k = xs.length := by omega
        subst this
        refine ⟨ret_bool ?_, rfl⟩
        have h := hA.out
        rw [List.take_length] at h
        rw [e.out, h, HL.out]; rfl
  · have hl' : ((xs.length : Int) != 4) = true := by simp; omega
    go_enter Tryz.func137, Tryz.ntmps137
    go_wp2
    go_ret
    refine ⟨ret_bool ?_, rfl⟩
    rw [e.out]; simp [hl]
end Go.Proofs.YtmcpefikmcaemaaGreatDoor.Own

namespace Go.Proofs.YtmcpefikmcaemaaGreatDoor.Own
open Go.RowKit

/-- An instruction: Kind, A, B, N. -/
abbrev Q4 := Int × Int × Int × Int
def q0 : Q4 := (0, 0, 0, 0)

/-- Rows of four numbers in memory. -/
def At4 (w : World) (b off : Nat) (xs : List Q4) : Prop :=
  b < w.heap.size ∧ ∀ i, i < xs.length → w.cell? ⟨b, off + i * 4, none⟩ = some (.int .i64 (xs.getD i q0).1) ∧ w.cell? ⟨b, off + i * 4 + 1, none⟩ = some (.int .i64 (xs.getD i q0).2.1) ∧ w.cell? ⟨b, off + i * 4 + 2, none⟩ = some (.int .i64 (xs.getD i q0).2.2.1) ∧ w.cell? ⟨b, off + i * 4 + 3, none⟩ = some (.int .i64 (xs.getD i q0).2.2.2)

/-- What a slice of such rows leads to. -/
def Sl4 (w : World) (a : Option Addr) (xs : List Q4) : Prop := xs = [] ∨ ∃ b off, a = some ⟨b, off, none⟩ ∧ At4 w b off xs

theorem At4.congr {w w' : World} {b off : Nat} {xs : List Q4} (h : At4 w b off xs) (hs : b < w'.heap.size) (hc : ∀ o, w'.cell? ⟨b, o, none⟩ = w.cell? ⟨b, o, none⟩) : At4 w' b off xs :=
  ⟨hs, fun i hi => by rw [hc, hc, hc, hc]; exact h.2 i hi⟩

theorem At4.below {w w' : World} {b off : Nat} {xs : List Q4} (h : At4 w b off xs) (hb : Below w.heap.size w w') : At4 w' b off xs :=
  h.congr (Nat.lt_of_lt_of_le h.1 hb.size) fun o => hb.cell (p := ⟨b, o, none⟩) h.1

theorem At4.belowAt {w w' : World} {b off B : Nat} {xs : List Q4} (h : At4 w b off xs) (hb : Below B w w') (hB : b < B) : At4 w' b off xs :=
  h.congr (Nat.lt_of_lt_of_le h.1 hb.size) fun o => hb.cell (p := ⟨b, o, none⟩) hB

theorem Sl4.below {w w' : World} {a : Option Addr} {xs : List Q4} (h : Sl4 w a xs) (hb : Below w.heap.size w w') : Sl4 w' a xs := by
  rcases h with h | ⟨b, off, rfl, h⟩
  · exact .inl h
  · exact .inr ⟨b, off, rfl, h.below hb⟩

theorem At4.only {w w' : World} {b off c : Nat} {xs : List Q4} (h : At4 w b off xs) (hb : Only c w w') (hc : b ≠ c) : At4 w' b off xs :=
  h.congr (by rw [hb.size]; exact h.1) fun o => hb.cell (p := ⟨b, o, none⟩) hc

/-- The numbers k, k + 1, .. laid into n rows of four. -/
def marks4 (k : Int) (n : Nat) : List Q4 := (List.range n).map fun (i : Nat) => (k + 4 * (i : Int), k + 4 * (i : Int) + 1, k + 4 * (i : Int) + 1 + 1, k + 4 * (i : Int) + 1 + 1 + 1)

theorem marks4_length (k : Int) (n : Nat) : (marks4 k n).length = n := by simp [marks4]

theorem marks4_getD (k : Int) (n i : Nat) (h : i < n) : (marks4 k n).getD i q0 = (k + 4 * (i : Int), k + 4 * (i : Int) + 1, k + 4 * (i : Int) + 1 + 1, k + 4 * (i : Int) + 1 + 1 + 1) := by
  simp [marks4, List.getD, h]

theorem take_succ_eqG {α : Type} {xs ys : List α} {k : Nat} (d : α) (hx : k < xs.length) (hy : k < ys.length) : (xs.take (k + 1) = ys.take (k + 1)) ↔ (xs.take k = ys.take k ∧ xs.getD k d = ys.getD k d) := by
  rw [List.take_succ_eq_append_getElem hx, List.take_succ_eq_append_getElem hy]
  constructor
  · intro h
    have := List.append_inj' h rfl
    refine ⟨this.1, ?_⟩
    have h2 := this.2
    simp at h2
    simp [List.getD, hx, hy, h2]
  · rintro ⟨h, h2⟩
    simp [List.getD, hx, hy] at h2
    rw [h, h2]

theorem ne_of_getDG {α : Type} [BEq α] [LawfulBEq α] {xs ys : List α} {k : Nat} (d : α) (h : xs.getD k d ≠ ys.getD k d) : (xs == ys) = false := by
  simp only [beq_eq_false_iff_ne, ne_eq]
  intro e; exact h (by rw [e])

/-- The equality of two rows, number by number. -/
def eqQ (p q : Q4) : Bool := p.1 == q.1 && p.2.1 == q.2.1 && p.2.2.1 == q.2.2.1 && p.2.2.2 == q.2.2.2
theorem eqQ_iff (p q : Q4) : eqQ p q = true ↔ p = q := by
  obtain ⟨a, b, c, d⟩ := p
  obtain ⟨a', b', c', d'⟩ := q
  simp [eqQ, and_assoc]
theorem eqQ_false (p q : Q4) : eqQ p q = false ↔ p ≠ q := by
  rw [← Bool.not_eq_true, eqQ_iff]

/-- Numbers in memory, one cell each. -/
def IntAt (w : World) (b off : Nat) (xs : List Int) : Prop :=
  b < w.heap.size ∧ ∀ i, i < xs.length → w.cell? ⟨b, off + i, none⟩ = some (.int .i64 (xs.getD i 0))

def SlI (w : World) (a : Option Addr) (xs : List Int) : Prop := xs = [] ∨ ∃ b off, a = some ⟨b, off, none⟩ ∧ IntAt w b off xs

theorem IntAt.congr {w w' : World} {b off : Nat} {xs : List Int} (h : IntAt w b off xs) (hs : b < w'.heap.size) (hc : ∀ o, w'.cell? ⟨b, o, none⟩ = w.cell? ⟨b, o, none⟩) : IntAt w' b off xs :=
  ⟨hs, fun i hi => by rw [hc]; exact h.2 i hi⟩
theorem IntAt.below {w w' : World} {b off : Nat} {xs : List Int} (h : IntAt w b off xs) (hb : Below w.heap.size w w') : IntAt w' b off xs :=
  h.congr (Nat.lt_of_lt_of_le h.1 hb.size) fun o => hb.cell (p := ⟨b, o, none⟩) h.1
theorem IntAt.belowAt {w w' : World} {b off B : Nat} {xs : List Int} (h : IntAt w b off xs) (hb : Below B w w') (hB : b < B) : IntAt w' b off xs :=
  h.congr (Nat.lt_of_lt_of_le h.1 hb.size) fun o => hb.cell (p := ⟨b, o, none⟩) hB
theorem SlI.below {w w' : World} {a : Option Addr} {xs : List Int} (h : SlI w a xs) (hb : Below w.heap.size w w') : SlI w' a xs := by
  rcases h with h | ⟨b, off, rfl, h⟩
  · exact .inl h
  · exact .inr ⟨b, off, rfl, h.below hb⟩
theorem IntAt.only {w w' : World} {b off c : Nat} {xs : List Int} (h : IntAt w b off xs) (hb : Only c w w') (hc : b ≠ c) : IntAt w' b off xs :=
  h.congr (by rw [hb.size]; exact h.1) fun o => hb.cell (p := ⟨b, o, none⟩) hc

def marks1 (k : Int) (n : Nat) : List Int := (List.range n).map fun (i : Nat) => k + (i : Int)
theorem marks1_length (k : Int) (n : Nat) : (marks1 k n).length = n := by simp [marks1]
theorem marks1_getD (k : Int) (n i : Nat) (h : i < n) : (marks1 k n).getD i 0 = k + (i : Int) := by
  simp [marks1, List.getD, h]


/-- Four cells in a row, put one behind the other. -/
theorem put4 {w : World} {b o : Nat} {x0 x1 x2 x3 : Value} (v0 v1 v2 v3 : Value) (c0 : w.cell? ⟨b, o, none⟩ = some x0) (c1 : w.cell? ⟨b, o + 1, none⟩ = some x1) (c2 : w.cell? ⟨b, o + 2, none⟩ = some x2) (c3 : w.cell? ⟨b, o + 3, none⟩ = some x3) :
    (((((w.setCell ⟨b, o, none⟩ v0).setCell ⟨b, o + 1, none⟩ v1).setCell ⟨b, o + 2, none⟩ v2).setCell ⟨b, o + 3, none⟩ v3).cell? ⟨b, o, none⟩ = some v0) ∧
    (((((w.setCell ⟨b, o, none⟩ v0).setCell ⟨b, o + 1, none⟩ v1).setCell ⟨b, o + 2, none⟩ v2).setCell ⟨b, o + 3, none⟩ v3).cell? ⟨b, o + 1, none⟩ = some v1) ∧
    (((((w.setCell ⟨b, o, none⟩ v0).setCell ⟨b, o + 1, none⟩ v1).setCell ⟨b, o + 2, none⟩ v2).setCell ⟨b, o + 3, none⟩ v3).cell? ⟨b, o + 2, none⟩ = some v2) ∧
    (((((w.setCell ⟨b, o, none⟩ v0).setCell ⟨b, o + 1, none⟩ v1).setCell ⟨b, o + 2, none⟩ v2).setCell ⟨b, o + 3, none⟩ v3).cell? ⟨b, o + 3, none⟩ = some v3) ∧
    ∀ p, (p < o ∨ o + 3 < p) → ((((w.setCell ⟨b, o, none⟩ v0).setCell ⟨b, o + 1, none⟩ v1).setCell ⟨b, o + 2, none⟩ v2).setCell ⟨b, o + 3, none⟩ v3).cell? ⟨b, p, none⟩ = w.cell? ⟨b, p, none⟩ := by
  have s := fun (W : World) (p q : Nat) (v : Value) (h : p ≠ q) => setCell_cell_other W b p q v h
  refine ⟨?_, ?_, ?_, ?_, fun p hp => ?_⟩
  · rw [s _ (o + 3) o _ (by omega), s _ (o + 2) o _ (by omega), s _ (o + 1) o _ (by omega)]
    exact setCell_cell_same _ _ _ _ x0 c0
  · rw [s _ (o + 3) (o + 1) _ (by omega), s _ (o + 2) (o + 1) _ (by omega)]
    exact setCell_cell_same _ _ _ _ x1 (by rw [s _ o (o + 1) _ (by omega)]; exact c1)
  · rw [s _ (o + 3) (o + 2) _ (by omega)]
    exact setCell_cell_same _ _ _ _ x2 (by rw [s _ (o + 1) (o + 2) _ (by omega), s _ o (o + 2) _ (by omega)]; exact c2)
  · exact setCell_cell_same _ _ _ _ x3 (by rw [s _ (o + 2) (o + 3) _ (by omega), s _ (o + 1) (o + 3) _ (by omega), s _ o (o + 3) _ (by omega)]; exact c3)
  · rw [s _ (o + 3) p _ (by omega), s _ (o + 2) p _ (by omega), s _ (o + 1) p _ (by omega), s _ o p _ (by omega)]

end Go.Proofs.YtmcpefikmcaemaaGreatDoor.Own
