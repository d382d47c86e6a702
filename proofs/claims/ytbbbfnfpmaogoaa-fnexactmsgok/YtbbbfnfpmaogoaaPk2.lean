/-
  Own texts, bundled: EqR, EqP, OkB, Base4, ProgOk2, ExecMath, RunEq.
-/
import Derived.Test.YtbbbfnfpmaogoaaPk1
namespace Go.Proofs.Ytbbbfnfpmaogoaa.Own
open Go.RowKit

set_option maxHeartbeats 400000 in
theorem eqRead (a b c d : Int) (w : World) : Calls Try.prog 142 #[.agg #[.int .i64 a, .int .i64 b], .agg #[.int .i64 c, .int .i64 d]] w fun e w' => e = .returned (.bool (a == c && b == d)) ∧ Below w.heap.size w w' := by
  go_enter Try.func142, Try.ntmps142
  go_wp2
  all_goals go_ret
  all_goals refine ⟨ret_bool ?_, ((Below.refl _ _).alloc (Nat.le_refl _) _).alloc (by simp) _⟩
  all_goals simp_all

set_option maxHeartbeats 1000000 in
theorem eqReadS (a1 a2 : Option Addr) (c1 c2 : Nat) (xs ys : List (Int × Int)) (w : World) (h1 : Sl w a1 xs) (h2 : Sl w a2 ys) (l1 : xs.length ≤ 2 ^ 40) (l2 : ys.length ≤ 2 ^ 40) :
    Calls Try.prog 123 #[.slice a1 xs.length c1, .slice a2 ys.length c2] w fun e w' => e = .returned (.bool (xs == ys)) ∧ Below w.heap.size w w' := by
  have H1 : Hid (Sl w a1 xs) := h1
  have H2 : Hid (Sl w a2 ys) := h2
  clear h1 h2
  by_cases hl : xs.length = ys.length
  · have hl' : ((xs.length : Int) != (ys.length : Int)) = false := by simp [hl]
    have Hl : Hid (xs.length = ys.length) := hl
    clear hl
    go_enter Try.func123, Try.ntmps123
    go_wp2
    go_loopw [5] (fun i wr => ∃ k : Nat, k ≤ xs.length ∧ i = .int .i64 k ∧ Hid (xs.take k = ys.take k) ∧ Below w.heap.size w wr) (fun i _ => xs.length - (intOf i).toNat)
    case atStart => exact ⟨0, Nat.zero_le _, rfl, rfl, Below.refl _ _⟩
    case round =>
      obtain ⟨k, hk, rfl, hE, hB⟩ := hrel
      by_cases hlt : k < xs.length
      · have hlt2 : k < ys.length := by rw [← Hl.out]; exact hlt
        rcases H1.out with h | ⟨b1, o1, rfl, h1⟩
        · subst h; simp at hlt
        rcases H2.out with h | ⟨b2, o2, rfl, h2⟩
        · subst h; simp at hlt2
        have H1' : Hid (BoxAt w b1 o1 xs) := h1
        have H2' : Hid (BoxAt w b2 o2 ys) := h2
        clear h1 h2
        have HT : Hid ((xs.take (k + 1) = ys.take (k + 1)) ↔ (xs.getD k (0, 0) = ys.getD k (0, 0))) := by
          unfold Hid; rw [take_succ_eq hlt hlt2]; exact ⟨fun h => h.2, fun h => ⟨hE, h⟩⟩
        obtain ⟨p, hp⟩ : ∃ p, p = xs.getD k (0, 0) := ⟨_, rfl⟩
        obtain ⟨q, hq⟩ : ∃ q, q = ys.getD k (0, 0) := ⟨_, rfl⟩
        have ca := (H1'.out.2 k hlt).1
        have cb := (H1'.out.2 k hlt).2
        have cc := (H2'.out.2 k hlt2).1
        have cd := (H2'.out.2 k hlt2).2
        rw [← hB.cell H1'.out.1, ← hp] at ca cb
        rw [← hB.cell H2'.out.1, ← hq] at cc cd
        have HP : Hid (p = xs.getD k (0, 0)) := hp
        have HQ : Hid (q = ys.getD k (0, 0)) := hq
        clear hp hq
        obtain ⟨p1, p2⟩ := p
        obtain ⟨q1, q2⟩ := q
        have hsz := hB.size
        by_cases hpq : (p1 == q1 && p2 == q2) = true
        · go_wp2
          go_region_with (go_at_call 142; refine (eqRead _ _ _ _ _).mono ?_; rintro e w' ⟨rfl, hb⟩)
          all_goals
            go_wp2
            go_roundw
            case rel =>
              refine ⟨k + 1, by omega, by go_num, ?_, hB.trans (Below.trans ((Below.refl _ _).drew) (hb.mono (by simpa using hsz)))⟩
              apply HT.out.2
              rw [← HP.out, ← HQ.out]
              simp at hpq
              rw [hpq.1, hpq.2]
            case measure => simp [intOf]; omega
        · have hpq' : (p1 == q1 && p2 == q2) = false := by simpa using hpq
          clear hpq
          go_wp2
          go_region_with (go_at_call 142; refine (eqRead _ _ _ _ _).mono ?_; rintro e w' ⟨rfl, hb⟩)
          all_goals
            go_wp2
            go_ret
            refine ⟨ret_bool ?_, hB.trans (Below.trans ((Below.refl _ _).drew) (hb.mono (by simpa using hsz)))⟩
            symm
            apply ne_of_getD (k := k)
            rw [← HP.out, ← HQ.out]
            intro h
            simp at hpq'
            simp at h
            exact hpq' h.1 h.2
      · go_wp2
        go_ret
        have : k = xs.length := by omega
        subst this
        refine ⟨ret_bool ?_, hB⟩
        have h := hE
        unfold Hid at h
        rw [List.take_length] at h
        have h3 := Hl.out
        rw [List.take_of_length_le (by omega)] at h
        simp [h]
  · have hl' : ((xs.length : Int) != (ys.length : Int)) = true := by simp; omega
    go_enter Try.func123, Try.ntmps123
    go_wp2
    go_ret
    refine ⟨ret_bool ?_, Below.refl _ _⟩
    symm
    simp
    intro h; exact hl (by rw [h])
end Go.Proofs.Ytbbbfnfpmaogoaa.Own

namespace Go.Proofs.Ytbbbfnfpmaogoaa.Own
open Go.RowKit

set_option maxHeartbeats 400000 in
theorem eqPut (a b c d : Int) (w : World) : Calls Try.prog 143 #[.agg #[.int .i64 a, .int .i64 b], .agg #[.int .i64 c, .int .i64 d]] w fun e w' => e = .returned (.bool (a == c && b == d)) ∧ Below w.heap.size w w' := by
  go_enter Try.func143, Try.ntmps143
  go_wp2
  all_goals go_ret
  all_goals refine ⟨ret_bool ?_, ((Below.refl _ _).alloc (Nat.le_refl _) _).alloc (by simp) _⟩
  all_goals simp_all

set_option maxHeartbeats 1000000 in
theorem eqPutS (a1 a2 : Option Addr) (c1 c2 : Nat) (xs ys : List (Int × Int)) (w : World) (h1 : Sl w a1 xs) (h2 : Sl w a2 ys) (l1 : xs.length ≤ 2 ^ 40) (l2 : ys.length ≤ 2 ^ 40) :
    Calls Try.prog 124 #[.slice a1 xs.length c1, .slice a2 ys.length c2] w fun e w' => e = .returned (.bool (xs == ys)) ∧ Below w.heap.size w w' := by
  have H1 : Hid (Sl w a1 xs) := h1
  have H2 : Hid (Sl w a2 ys) := h2
  clear h1 h2
  by_cases hl : xs.length = ys.length
  · have hl' : ((xs.length : Int) != (ys.length : Int)) = false := by simp [hl]
    have Hl : Hid (xs.length = ys.length) := hl
    clear hl
    go_enter Try.func124, Try.ntmps124
    go_wp2
    go_loopw [5] (fun i wr => ∃ k : Nat, k ≤ xs.length ∧ i = .int .i64 k ∧ Hid (xs.take k = ys.take k) ∧ Below w.heap.size w wr) (fun i _ => xs.length - (intOf i).toNat)
    case atStart => exact ⟨0, Nat.zero_le _, rfl, rfl, Below.refl _ _⟩
    case round =>
      obtain ⟨k, hk, rfl, hE, hB⟩ := hrel
      by_cases hlt : k < xs.length
      · have hlt2 : k < ys.length := by rw [← Hl.out]; exact hlt
        rcases H1.out with h | ⟨b1, o1, rfl, h1⟩
        · subst h; simp at hlt
        rcases H2.out with h | ⟨b2, o2, rfl, h2⟩
        · subst h; simp at hlt2
        have H1' : Hid (BoxAt w b1 o1 xs) := h1
        have H2' : Hid (BoxAt w b2 o2 ys) := h2
        clear h1 h2
        have HT : Hid ((xs.take (k + 1) = ys.take (k + 1)) ↔ (xs.getD k (0, 0) = ys.getD k (0, 0))) := by
          unfold Hid; rw [take_succ_eq hlt hlt2]; exact ⟨fun h => h.2, fun h => ⟨hE, h⟩⟩
        obtain ⟨p, hp⟩ : ∃ p, p = xs.getD k (0, 0) := ⟨_, rfl⟩
        obtain ⟨q, hq⟩ : ∃ q, q = ys.getD k (0, 0) := ⟨_, rfl⟩
        have ca := (H1'.out.2 k hlt).1
        have cb := (H1'.out.2 k hlt).2
        have cc := (H2'.out.2 k hlt2).1
        have cd := (H2'.out.2 k hlt2).2
        rw [← hB.cell H1'.out.1, ← hp] at ca cb
        rw [← hB.cell H2'.out.1, ← hq] at cc cd
        have HP : Hid (p = xs.getD k (0, 0)) := hp
        have HQ : Hid (q = ys.getD k (0, 0)) := hq
        clear hp hq
        obtain ⟨p1, p2⟩ := p
        obtain ⟨q1, q2⟩ := q
        have hsz := hB.size
        by_cases hpq : (p1 == q1 && p2 == q2) = true
        · go_wp2
          go_region_with (go_at_call 143; refine (eqPut _ _ _ _ _).mono ?_; rintro e w' ⟨rfl, hb⟩)
          all_goals
            go_wp2
            go_roundw
            case rel =>
              refine ⟨k + 1, by omega, by go_num, ?_, hB.trans (Below.trans ((Below.refl _ _).drew) (hb.mono (by simpa using hsz)))⟩
              apply HT.out.2
              rw [← HP.out, ← HQ.out]
              simp at hpq
              rw [hpq.1, hpq.2]
            case measure => simp [intOf]; omega
        · have hpq' : (p1 == q1 && p2 == q2) = false := by simpa using hpq
          clear hpq
          go_wp2
          go_region_with (go_at_call 143; refine (eqPut _ _ _ _ _).mono ?_; rintro e w' ⟨rfl, hb⟩)
          all_goals
            go_wp2
            go_ret
            refine ⟨ret_bool ?_, hB.trans (Below.trans ((Below.refl _ _).drew) (hb.mono (by simpa using hsz)))⟩
            symm
            apply ne_of_getD (k := k)
            rw [← HP.out, ← HQ.out]
            intro h
            simp at hpq'
            simp at h
            exact hpq' h.1 h.2
      · go_wp2
        go_ret
        have : k = xs.length := by omega
        subst this
        refine ⟨ret_bool ?_, hB⟩
        have h := hE
        unfold Hid at h
        rw [List.take_length] at h
        have h3 := Hl.out
        rw [List.take_of_length_le (by omega)] at h
        simp [h]
  · have hl' : ((xs.length : Int) != (ys.length : Int)) = true := by simp; omega
    go_enter Try.func124, Try.ntmps124
    go_wp2
    go_ret
    refine ⟨ret_bool ?_, Below.refl _ _⟩
    symm
    simp
    intro h; exact hl (by rw [h])
end Go.Proofs.Ytbbbfnfpmaogoaa.Own

namespace Go.Proofs.Ytbbbfnfpmaogoaa.Own
open Go.RowKit

def numOk (n : Int) : Bool := decide (-1000000 ≤ n) && decide (n ≤ 1000000)
def boxOk1 (p : Int × Int) : Bool := decide (0 ≤ p.1) && decide (p.1 ≤ 1000000) && numOk p.2
def boxOk (xs : List (Int × Int)) : Bool := xs.length == 4 && xs.all boxOk1

set_option maxHeartbeats 400000 in
theorem l1Num (n : Int) (w : World) : Calls Try.prog 144 #[.int .i64 n] w fun e w' => e = .returned (.bool (numOk n)) ∧ w' = w := by
  have e : Hid (numOk n = (decide (-1000000 ≤ n) && decide (n ≤ 1000000))) := rfl
  by_cases h1 : -1000000 ≤ n
  · by_cases h2 : n ≤ 1000000
    all_goals
      go_enter Try.func144, Try.ntmps144
      go_wp2
      go_ret
      exact ⟨ret_bool (by rw [e.out]; simp [h1, h2]), rfl⟩
  · have h1' : n < -1000000 := by omega
    go_enter Try.func144, Try.ntmps144
    go_wp2
    go_ret
    exact ⟨ret_bool (by rw [e.out]; simp; omega), rfl⟩

set_option maxRecDepth 100000 in
set_option maxHeartbeats 1000000 in
theorem specOk (a : Option Addr) (c : Nat) (xs : List (Int × Int)) (w : World) (h : Sl w a xs) (hn : xs.length ≤ 2 ^ 40) :
    Calls Try.prog 148 #[.slice a xs.length c] w fun e w' => e = .returned (.bool (boxOk xs)) ∧ w' = w := by
  have e : Hid (boxOk xs = (xs.length == 4 && xs.all boxOk1)) := rfl
  have H1 : Hid (Sl w a xs) := h
  clear h
  by_cases hl : xs.length = 4
  · have hl' : ((xs.length : Int) != 4) = false := by simp [hl]
    have HL : Hid (xs.length = 4) := hl
    clear hl
    go_enter Try.func148, Try.ntmps148
    go_wp2
    go_loop [3] (fun i => ∃ k : Nat, k ≤ xs.length ∧ i = .int .i64 k ∧ Hid ((xs.take k).all boxOk1 = true)) (fun i => xs.length - (intOf i).toNat)
    case atStart => exact ⟨0, Nat.zero_le _, rfl, rfl⟩
    case round =>
      obtain ⟨k, hk, rfl, hA⟩ := hrel
      by_cases hlt : k < xs.length
      · rcases H1.out with h | ⟨b1, o1, rfl, h1⟩
        · subst h; simp at hlt
        obtain ⟨p, hp⟩ : ∃ p, p = xs.getD k (0, 0) := ⟨_, rfl⟩
        have ca := (h1.2 k hlt).1
        have cb := (h1.2 k hlt).2
        rw [← hp] at ca cb
        have HP : Hid (p = xs.getD k (0, 0)) := hp
        clear hp h1
        obtain ⟨p1, p2⟩ := p
        have fin : boxOk1 (p1, p2) = false → Hid (boxOk xs = false) := by
          intro h
          show boxOk xs = false
          rw [e.out, all_false (0, 0) hlt (by rw [← HP.out]; exact h)]; simp
        by_cases t1 : p1 < 0
        · have F := fin (by simp [boxOk1, show ¬ 0 ≤ p1 by omega])
          clear fin
          go_wp2
          go_ret
          exact ⟨ret_bool F.out.symm, rfl⟩
        · by_cases t2 : 1000000 < p1
          · have F := fin (by simp [boxOk1, show ¬ p1 ≤ 1000000 by omega])
            clear fin
            go_wp2
            go_ret
            exact ⟨ret_bool F.out.symm, rfl⟩
          · by_cases t3 : numOk p2 = true
            · have N : Hid ((xs.take (k + 1)).all boxOk1 = true) := by
                show _ = true
                rw [all_take_succ (0, 0) hlt, hA.out, ← HP.out]
                simp [boxOk1, t3]; omega
              clear fin
              go_wp2_with (go_at_call 144; refine (l1Num _ _).mono ?_; rintro e w' ⟨rfl, rfl⟩)
              go_round
              case rel => exact ⟨k + 1, by omega, by go_num, N⟩
              case measure => simp [intOf]; omega
            · have t3' : numOk p2 = false := by simpa using t3
              have F := fin (by simp [boxOk1, t3'])
              clear fin t3
              go_wp2_with (go_at_call 144; refine (l1Num _ _).mono ?_; rintro e w' ⟨rfl, rfl⟩)
              go_ret
              exact ⟨ret_bool F.out.symm, rfl⟩
      · go_wp2
        go_ret
        have : k = xs.length := by omega
        subst this
        refine ⟨ret_bool ?_, rfl⟩
        have h := hA.out
        rw [List.take_length] at h
        rw [e.out, h, HL.out]; rfl
  · have hl' : ((xs.length : Int) != 4) = true := by simp; omega
    go_enter Try.func148, Try.ntmps148
    go_wp2
    go_ret
    refine ⟨ret_bool ?_, rfl⟩
    rw [e.out]; simp [hl]
end Go.Proofs.Ytbbbfnfpmaogoaa.Own

namespace Go.Proofs.Ytbbbfnfpmaogoaa.Own
open Go.RowKit

/-- An instruction: Kind, A, B, N. -/
abbrev Q4 := Int × Int × Int × Int
def q0 : Q4 := (0, 0, 0, 0)

/-- Rows of four numbers in memory. -/
def At4 (w : World) (b off : Nat) (xs : List Q4) : Prop :=
  b < w.heap.size ∧ ∀ i, i < xs.length → w.cell? ⟨b, off + i * 4, none⟩ = some (.int .i64 (xs.getD i q0).1) ∧ w.cell? ⟨b, off + i * 4 + 1, none⟩ = some (.int .i64 (xs.getD i q0).2.1) ∧ w.cell? ⟨b, off + i * 4 + 2, none⟩ = some (.int .i64 (xs.getD i q0).2.2.1) ∧ w.cell? ⟨b, off + i * 4 + 3, none⟩ = some (.int .i64 (xs.getD i q0).2.2.2)

/-- What a slice of such rows leads to. -/
def Sl4 (w : World) (a : Option Addr) (xs : List Q4) : Prop := xs = [] ∨ ∃ b off, a = some ⟨b, off, none⟩ ∧ At4 w b off xs

theorem At4.congr {w w' : World} {b off : Nat} {xs : List Q4} (h : At4 w b off xs) (hs : b < w'.heap.size) (hc : ∀ o, w'.cell? ⟨b, o, none⟩ = w.cell? ⟨b, o, none⟩) : At4 w' b off xs :=
  ⟨hs, fun i hi => by rw [hc, hc, hc, hc]; exact h.2 i hi⟩

theorem At4.below {w w' : World} {b off : Nat} {xs : List Q4} (h : At4 w b off xs) (hb : Below w.heap.size w w') : At4 w' b off xs :=
  h.congr (Nat.lt_of_lt_of_le h.1 hb.size) fun o => hb.cell (p := ⟨b, o, none⟩) h.1

theorem At4.belowAt {w w' : World} {b off B : Nat} {xs : List Q4} (h : At4 w b off xs) (hb : Below B w w') (hB : b < B) : At4 w' b off xs :=
  h.congr (Nat.lt_of_lt_of_le h.1 hb.size) fun o => hb.cell (p := ⟨b, o, none⟩) hB

theorem Sl4.below {w w' : World} {a : Option Addr} {xs : List Q4} (h : Sl4 w a xs) (hb : Below w.heap.size w w') : Sl4 w' a xs := by
  rcases h with h | ⟨b, off, rfl, h⟩
  · exact .inl h
  · exact .inr ⟨b, off, rfl, h.below hb⟩

theorem At4.only {w w' : World} {b off c : Nat} {xs : List Q4} (h : At4 w b off xs) (hb : Only c w w') (hc : b ≠ c) : At4 w' b off xs :=
  h.congr (by rw [hb.size]; exact h.1) fun o => hb.cell (p := ⟨b, o, none⟩) hc

/-- The numbers k, k + 1, .. laid into n rows of four. -/
def marks4 (k : Int) (n : Nat) : List Q4 := (List.range n).map fun (i : Nat) => (k + 4 * (i : Int), k + 4 * (i : Int) + 1, k + 4 * (i : Int) + 1 + 1, k + 4 * (i : Int) + 1 + 1 + 1)

theorem marks4_length (k : Int) (n : Nat) : (marks4 k n).length = n := by simp [marks4]

theorem marks4_getD (k : Int) (n i : Nat) (h : i < n) : (marks4 k n).getD i q0 = (k + 4 * (i : Int), k + 4 * (i : Int) + 1, k + 4 * (i : Int) + 1 + 1, k + 4 * (i : Int) + 1 + 1 + 1) := by
  simp [marks4, List.getD, h]

theorem take_succ_eqG {α : Type} {xs ys : List α} {k : Nat} (d : α) (hx : k < xs.length) (hy : k < ys.length) : (xs.take (k + 1) = ys.take (k + 1)) ↔ (xs.take k = ys.take k ∧ xs.getD k d = ys.getD k d) := by
  rw [List.take_succ_eq_append_getElem hx, List.take_succ_eq_append_getElem hy]
  constructor
  · intro h
    have := List.append_inj' h rfl
    refine ⟨this.1, ?_⟩
    have h2 := this.2
    simp at h2
    simp [List.getD, hx, hy, h2]
  · rintro ⟨h, h2⟩
    simp [List.getD, hx, hy] at h2
    rw [h, h2]

theorem ne_of_getDG {α : Type} [BEq α] [LawfulBEq α] {xs ys : List α} {k : Nat} (d : α) (h : xs.getD k d ≠ ys.getD k d) : (xs == ys) = false := by
  simp only [beq_eq_false_iff_ne, ne_eq]
  intro e; exact h (by rw [e])

/-- The equality of two rows, number by number. -/
def eqQ (p q : Q4) : Bool := p.1 == q.1 && p.2.1 == q.2.1 && p.2.2.1 == q.2.2.1 && p.2.2.2 == q.2.2.2
theorem eqQ_iff (p q : Q4) : eqQ p q = true ↔ p = q := by
  obtain ⟨a, b, c, d⟩ := p
  obtain ⟨a', b', c', d'⟩ := q
  simp [eqQ, and_assoc]
theorem eqQ_false (p q : Q4) : eqQ p q = false ↔ p ≠ q := by
  rw [← Bool.not_eq_true, eqQ_iff]

/-- Numbers in memory, one cell each. -/
def IntAt (w : World) (b off : Nat) (xs : List Int) : Prop :=
  b < w.heap.size ∧ ∀ i, i < xs.length → w.cell? ⟨b, off + i, none⟩ = some (.int .i64 (xs.getD i 0))

def SlI (w : World) (a : Option Addr) (xs : List Int) : Prop := xs = [] ∨ ∃ b off, a = some ⟨b, off, none⟩ ∧ IntAt w b off xs

theorem IntAt.congr {w w' : World} {b off : Nat} {xs : List Int} (h : IntAt w b off xs) (hs : b < w'.heap.size) (hc : ∀ o, w'.cell? ⟨b, o, none⟩ = w.cell? ⟨b, o, none⟩) : IntAt w' b off xs :=
  ⟨hs, fun i hi => by rw [hc]; exact h.2 i hi⟩
theorem IntAt.below {w w' : World} {b off : Nat} {xs : List Int} (h : IntAt w b off xs) (hb : Below w.heap.size w w') : IntAt w' b off xs :=
  h.congr (Nat.lt_of_lt_of_le h.1 hb.size) fun o => hb.cell (p := ⟨b, o, none⟩) h.1
theorem IntAt.belowAt {w w' : World} {b off B : Nat} {xs : List Int} (h : IntAt w b off xs) (hb : Below B w w') (hB : b < B) : IntAt w' b off xs :=
  h.congr (Nat.lt_of_lt_of_le h.1 hb.size) fun o => hb.cell (p := ⟨b, o, none⟩) hB
theorem SlI.below {w w' : World} {a : Option Addr} {xs : List Int} (h : SlI w a xs) (hb : Below w.heap.size w w') : SlI w' a xs := by
  rcases h with h | ⟨b, off, rfl, h⟩
  · exact .inl h
  · exact .inr ⟨b, off, rfl, h.below hb⟩
theorem IntAt.only {w w' : World} {b off c : Nat} {xs : List Int} (h : IntAt w b off xs) (hb : Only c w w') (hc : b ≠ c) : IntAt w' b off xs :=
  h.congr (by rw [hb.size]; exact h.1) fun o => hb.cell (p := ⟨b, o, none⟩) hc

def marks1 (k : Int) (n : Nat) : List Int := (List.range n).map fun (i : Nat) => k + (i : Int)
theorem marks1_length (k : Int) (n : Nat) : (marks1 k n).length = n := by simp [marks1]
theorem marks1_getD (k : Int) (n i : Nat) (h : i < n) : (marks1 k n).getD i 0 = k + (i : Int) := by
  simp [marks1, List.getD, h]


/-- Four cells in a row, put one behind the other. -/
theorem put4 {w : World} {b o : Nat} {x0 x1 x2 x3 : Value} (v0 v1 v2 v3 : Value) (c0 : w.cell? ⟨b, o, none⟩ = some x0) (c1 : w.cell? ⟨b, o + 1, none⟩ = some x1) (c2 : w.cell? ⟨b, o + 2, none⟩ = some x2) (c3 : w.cell? ⟨b, o + 3, none⟩ = some x3) :
    (((((w.setCell ⟨b, o, none⟩ v0).setCell ⟨b, o + 1, none⟩ v1).setCell ⟨b, o + 2, none⟩ v2).setCell ⟨b, o + 3, none⟩ v3).cell? ⟨b, o, none⟩ = some v0) ∧
    (((((w.setCell ⟨b, o, none⟩ v0).setCell ⟨b, o + 1, none⟩ v1).setCell ⟨b, o + 2, none⟩ v2).setCell ⟨b, o + 3, none⟩ v3).cell? ⟨b, o + 1, none⟩ = some v1) ∧
    (((((w.setCell ⟨b, o, none⟩ v0).setCell ⟨b, o + 1, none⟩ v1).setCell ⟨b, o + 2, none⟩ v2).setCell ⟨b, o + 3, none⟩ v3).cell? ⟨b, o + 2, none⟩ = some v2) ∧
    (((((w.setCell ⟨b, o, none⟩ v0).setCell ⟨b, o + 1, none⟩ v1).setCell ⟨b, o + 2, none⟩ v2).setCell ⟨b, o + 3, none⟩ v3).cell? ⟨b, o + 3, none⟩ = some v3) ∧
    ∀ p, (p < o ∨ o + 3 < p) → ((((w.setCell ⟨b, o, none⟩ v0).setCell ⟨b, o + 1, none⟩ v1).setCell ⟨b, o + 2, none⟩ v2).setCell ⟨b, o + 3, none⟩ v3).cell? ⟨b, p, none⟩ = w.cell? ⟨b, p, none⟩ := by
  have s := fun (W : World) (p q : Nat) (v : Value) (h : p ≠ q) => setCell_cell_other W b p q v h
  refine ⟨?_, ?_, ?_, ?_, fun p hp => ?_⟩
  · rw [s _ (o + 3) o _ (by omega), s _ (o + 2) o _ (by omega), s _ (o + 1) o _ (by omega)]
    exact setCell_cell_same _ _ _ _ x0 c0
  · rw [s _ (o + 3) (o + 1) _ (by omega), s _ (o + 2) (o + 1) _ (by omega)]
    exact setCell_cell_same _ _ _ _ x1 (by rw [s _ o (o + 1) _ (by omega)]; exact c1)
  · rw [s _ (o + 3) (o + 2) _ (by omega)]
    exact setCell_cell_same _ _ _ _ x2 (by rw [s _ (o + 1) (o + 2) _ (by omega), s _ o (o + 2) _ (by omega)]; exact c2)
  · exact setCell_cell_same _ _ _ _ x3 (by rw [s _ (o + 2) (o + 3) _ (by omega), s _ (o + 1) (o + 3) _ (by omega), s _ o (o + 3) _ (by omega)]; exact c3)
  · rw [s _ (o + 3) p _ (by omega), s _ (o + 2) p _ (by omega), s _ (o + 1) p _ (by omega), s _ o p _ (by omega)]

end Go.Proofs.Ytbbbfnfpmaogoaa.Own

namespace Go.Proofs.Ytbbbfnfpmaogoaa.Own
open Go.RowKit

def numOk2 (n : Int) : Bool := decide (-1000000 ≤ n) && decide (n ≤ 1000000)
def regOk (n : Int) : Bool := decide (0 ≤ n) && decide (n ≤ 3)
def lessOk (n : Int) : Bool := decide (1 ≤ n) && decide (n ≤ 10)
/-- An instruction is right. -/
def insOk (p : Q4) : Bool :=
  if p.1 = 1 ∨ p.1 = 2 ∨ p.1 = 4 ∨ p.1 = 5 then regOk p.2.1 && regOk p.2.2.1 && p.2.2.2 == 0
  else if p.1 = 3 then regOk p.2.1 && p.2.2.1 == 0 && numOk2 p.2.2.2
  else if p.1 = 6 then regOk p.2.1 && regOk p.2.2.1 && lessOk p.2.2.2
  else if p.1 = 7 then p.2.1 == 0 && p.2.2.1 == 0 && p.2.2.2 == 0
  else false
/-- A program is ok. -/
def progOk (xs : List Q4) : Bool := decide (xs.length ≤ 10) && xs.all insOk

theorem insOk_1 (a b n : Int) : insOk (1, a, b, n) = (regOk a && regOk b && n == 0) := rfl
theorem insOk_2 (a b n : Int) : insOk (2, a, b, n) = (regOk a && regOk b && n == 0) := rfl
theorem insOk_3 (a b n : Int) : insOk (3, a, b, n) = (regOk a && b == 0 && numOk2 n) := rfl
theorem insOk_4 (a b n : Int) : insOk (4, a, b, n) = (regOk a && regOk b && n == 0) := rfl
theorem insOk_5 (a b n : Int) : insOk (5, a, b, n) = (regOk a && regOk b && n == 0) := rfl
theorem insOk_6 (a b n : Int) : insOk (6, a, b, n) = (regOk a && regOk b && lessOk n) := rfl
theorem insOk_7 (a b n : Int) : insOk (7, a, b, n) = (a == 0 && b == 0 && n == 0) := rfl
theorem insOk_no {k : Int} (a b n : Int) (h : k ≠ 1 ∧ k ≠ 2 ∧ k ≠ 3 ∧ k ≠ 4 ∧ k ≠ 5 ∧ k ≠ 6 ∧ k ≠ 7) : insOk (k, a, b, n) = false := by
  obtain ⟨h1, h2, h3, h4, h5, h6, h7⟩ := h
  simp [insOk, h1, h2, h3, h4, h5, h6, h7]
end Go.Proofs.Ytbbbfnfpmaogoaa.Own

namespace Go.Proofs.Ytbbbfnfpmaogoaa.Own
open Go.RowKit
set_option linter.unusedVariables false

abbrev P2 := Int × Int
def z2 : P2 := (0, 0)

/-- What stands at a place is of a box, right, and its box has not come ahead of it. -/
def okAt (f : Int → Bool) (xs : List P2) (i : Nat) : Bool := regOk (xs.getD i (0, 0)).1 && f (xs.getD i (0, 0)).2 && !((xs.take i).any fun p => p.1 == (xs.getD i (0, 0)).1)
def okAll (f : Int → Bool) (xs : List P2) : Bool := (List.range xs.length).all (okAt f xs)
theorem okAll_iff {f : Int → Bool} {xs : List P2} : okAll f xs = true ↔ ∀ i, i < xs.length → okAt f xs i = true := by
  simp [okAll, List.all_eq_true]
theorem okAll_false {f : Int → Bool} {xs : List P2} {i : Nat} (hi : i < xs.length) (h : okAt f xs i = false) : okAll f xs = false := by
  rw [Bool.eq_false_iff]
  intro e
  rw [okAll_iff.1 e i hi] at h
  cases h

def verOk (n : Int) : Bool := decide (0 ≤ n) && decide (n ≤ 1000000)
def endOk (k v : Int) (nr np : Nat) : Bool :=
  if k = 0 then numOk v else if k = 1 ∨ k = 2 then v == 0 && decide (np = 0) else if k = 3 then v == 0 && decide (np = 0) && decide (nr = 0) else false
/-- A run is right. -/
def execOk (xs ys : List P2) (v k : Int) : Bool := endOk k v xs.length ys.length && okAll verOk xs && okAll numOk ys

theorem endOk_0 (v : Int) (nr np : Nat) : endOk 0 v nr np = numOk v := rfl
theorem endOk_1 (v : Int) (nr np : Nat) : endOk 1 v nr np = (v == 0 && decide (np = 0)) := rfl
theorem endOk_2 (v : Int) (nr np : Nat) : endOk 2 v nr np = (v == 0 && decide (np = 0)) := rfl
theorem endOk_3 (v : Int) (nr np : Nat) : endOk 3 v nr np = (v == 0 && decide (np = 0) && decide (nr = 0)) := rfl
theorem endOk_no {k : Int} (v : Int) (nr np : Nat) (h : k ≠ 0 ∧ k ≠ 1 ∧ k ≠ 2 ∧ k ≠ 3) : endOk k v nr np = false := by
  obtain ⟨h0, h1, h2, h3⟩ := h
  simp [endOk, h0, h1, h2, h3]

/-- The boxes that have come, as marks. -/
def seen (xs : List P2) (k : Nat) (j : Nat) : Bool := (xs.take k).any fun p => p.1 == (j : Int)
theorem seen_zero (xs : List P2) (j : Nat) : seen xs 0 j = false := by simp [seen]
theorem seen_succ (xs : List P2) (k j : Nat) (h : k < xs.length) : seen xs (k + 1) j = (seen xs k j || (xs.getD k (0, 0)).1 == (j : Int)) := by
  unfold seen
  rw [List.take_succ_eq_append_getElem h, List.any_append]
  simp [List.getD, h]
theorem okAt_seen (f : Int → Bool) (xs : List P2) (k : Nat) (j : Nat) (hj : (xs.getD k (0, 0)).1 = (j : Int)) : okAt f xs k = (regOk (j : Int) && f (xs.getD k (0, 0)).2 && !seen xs k j) := by
  simp only [okAt, seen, hj]
end Go.Proofs.Ytbbbfnfpmaogoaa.Own

namespace Go.Proofs.Ytbbbfnfpmaogoaa.Own
open Go.RowKit
set_option linter.unusedVariables false
set_option linter.unusedSimpArgs false

set_option maxRecDepth 100000 in
set_option maxHeartbeats 1000000 in
theorem eqRun (a1 a2 b1 b2 : Option Addr) (c1 c2 d1 d2 : Nat) (xs ys zs us : List P2) (v k v' k' : Int) (w : World) (h1 : Sl w a1 xs) (h2 : Sl w a2 ys) (h3 : Sl w b1 zs) (h4 : Sl w b2 us)
    (n1 : xs.length ≤ 2 ^ 40) (n2 : ys.length ≤ 2 ^ 40) (n3 : zs.length ≤ 2 ^ 40) (n4 : us.length ≤ 2 ^ 40) (he : xs = zs ∧ ys = us ∧ v = v' ∧ k = k') :
    Calls Try.prog 84 #[.agg #[.slice a1 xs.length c1, .slice a2 ys.length c2, .int .i64 v, .int .i64 k], .agg #[.slice b1 zs.length d1, .slice b2 us.length d2, .int .i64 v', .int .i64 k']] w fun e w' => e = .returned (.bool true) ∧ Below w.heap.size w w' := by
  obtain ⟨rfl, rfl, rfl, rfl⟩ := he
  have H1 : Hid (Sl w a1 xs) := h1
  have H2 : Hid (Sl w a2 ys) := h2
  have H3 : Hid (Sl w b1 xs) := h3
  have H4 : Hid (Sl w b2 ys) := h4
  clear h1 h2 h3 h4
  obtain ⟨W, hW⟩ : ∃ W, W = (w.alloc (.cells #[.slice a1 xs.length c1, .slice a2 ys.length c2, .int .i64 v, .int .i64 k] 32)).alloc (.cells #[.slice b1 xs.length d1, .slice b2 ys.length d2, .int .i64 v, .int .i64 k] 32) := ⟨_, rfl⟩
  have hbW : Hid (Below w.heap.size w W) := by
    show Below _ _ _
    rw [hW]; exact ((Below.refl _ _).alloc (Nat.le_refl _) _).alloc (by simp) _
  have hsW : Hid (W.heap.size = w.heap.size + 2) := by show _ = _; rw [hW]; simp
  have g0 : Hid (W.heap[w.heap.size]? = some (.cells #[.slice a1 xs.length c1, .slice a2 ys.length c2, .int .i64 v, .int .i64 k] 32 (0, 0))) := by
    show _ = _
    rw [hW]; exact heap_new1 _ _ _
  have g1 : Hid (W.heap[w.heap.size + 1]? = some (.cells #[.slice b1 xs.length d1, .slice b2 ys.length d2, .int .i64 v, .int .i64 k] 32 (0, 0))) := by
    show _ = _
    rw [hW]; exact heap_new2 _ _ _
  have HW : Hid (W = _) := hW
  clear hW
  go_enter Try.func84, Try.ntmps84
  go_wp2_with fail
  rw [← HW.out]
  refine (eqReadS a1 b1 c1 d1 xs xs W (H1.out.below hbW.out) (H3.out.below hbW.out) n1 n1).mono ?_
  rintro e w1 ⟨rfl, b1'⟩
  rw [show (xs == xs) = true from by simp]
  have B1 : Hid (Below w.heap.size w w1) := hbW.out.trans (b1'.mono hbW.out.size)
  have C0 : Hid (∀ o, w1.cell? ⟨w.heap.size, o, none⟩ = W.cell? ⟨w.heap.size, o, none⟩) := fun o => b1'.cell (p := ⟨w.heap.size, o, none⟩) (by show w.heap.size < _; have := hsW.out; omega)
  have C1 : Hid (∀ o, w1.cell? ⟨w.heap.size + 1, o, none⟩ = W.cell? ⟨w.heap.size + 1, o, none⟩) := fun o => b1'.cell (p := ⟨w.heap.size + 1, o, none⟩) (by show w.heap.size + 1 < _; have := hsW.out; omega)
  have S1 : Hid (W.heap.size ≤ w1.heap.size) := b1'.size
  have q0 : w1.cell? ⟨w.heap.size, 1, none⟩ = some (.slice a2 ys.length c2) := by rw [C0.out, cell_heap g0.out]; rfl
  have q1 : w1.cell? ⟨w.heap.size + 1, 1, none⟩ = some (.slice b2 ys.length d2) := by rw [C1.out, cell_heap g1.out]; rfl
  clear b1'
  go_wp2_with fail
  refine (eqPutS a2 b2 c2 d2 ys ys w1 (H2.out.below B1.out) (H4.out.below B1.out) n2 n2).mono ?_
  rintro e w2 ⟨rfl, b2'⟩
  rw [show (ys == ys) = true from by simp]
  have B2 : Hid (Below w.heap.size w w2) := B1.out.trans (b2'.mono B1.out.size)
  have D0 : Hid (∀ o, w2.cell? ⟨w.heap.size, o, none⟩ = W.cell? ⟨w.heap.size, o, none⟩) := fun o => (b2'.cell (p := ⟨w.heap.size, o, none⟩) (by show w.heap.size < _; have := hsW.out; have := S1.out; omega)).trans (C0.out o)
  have D1 : Hid (∀ o, w2.cell? ⟨w.heap.size + 1, o, none⟩ = W.cell? ⟨w.heap.size + 1, o, none⟩) := fun o => (b2'.cell (p := ⟨w.heap.size + 1, o, none⟩) (by show w.heap.size + 1 < _; have := hsW.out; have := S1.out; omega)).trans (C1.out o)
  have p0 : w2.cell? ⟨w.heap.size, 2, none⟩ = some (.int .i64 v) := by rw [D0.out, cell_heap g0.out]; rfl
  have p1 : w2.cell? ⟨w.heap.size + 1, 2, none⟩ = some (.int .i64 v) := by rw [D1.out, cell_heap g1.out]; rfl
  have p2 : w2.cell? ⟨w.heap.size, 3, none⟩ = some (.int .i64 k) := by rw [D0.out, cell_heap g0.out]; rfl
  have p3 : w2.cell? ⟨w.heap.size + 1, 3, none⟩ = some (.int .i64 k) := by rw [D1.out, cell_heap g1.out]; rfl
  have ev : (v != v) = false := by simp
  have ek : (k != k) = false := by simp
  clear b2' q0 q1
  go_wp2
  go_ret
  exact ⟨rfl, B2.out⟩
end Go.Proofs.Ytbbbfnfpmaogoaa.Own
