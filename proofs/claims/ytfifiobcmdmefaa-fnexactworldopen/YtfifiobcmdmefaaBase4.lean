/-
  Own text: rows of four numbers in memory (instructions), used by the walks of this seat. Nothing of the program.
-/
import Derived.Test.YtfifiobcmdmefaaBase
import Derived.Test.YtfifiobcmdmefaaMem
namespace Go.Proofs.Ytfifiobcmdmefaa.Own
open Go.RowKit

/-- An instruction: Kind, A, B, N. -/
abbrev Q4 := Int × Int × Int × Int
def q0 : Q4 := (0, 0, 0, 0)

/-- Rows of four numbers in memory. -/
def At4 (w : World) (b off : Nat) (xs : List Q4) : Prop :=
  b < w.heap.size ∧ ∀ i, i < xs.length → w.cell? ⟨b, off + i * 4, none⟩ = some (.int .i64 (xs.getD i q0).1) ∧ w.cell? ⟨b, off + i * 4 + 1, none⟩ = some (.int .i64 (xs.getD i q0).2.1) ∧ w.cell? ⟨b, off + i * 4 + 2, none⟩ = some (.int .i64 (xs.getD i q0).2.2.1) ∧ w.cell? ⟨b, off + i * 4 + 3, none⟩ = some (.int .i64 (xs.getD i q0).2.2.2)

/-- What a slice of such rows leads to. -/
def Sl4 (w : World) (a : Option Addr) (xs : List Q4) : Prop := xs = [] ∨ ∃ b off, a = some ⟨b, off, none⟩ ∧ At4 w b off xs

theorem At4.congr {w w' : World} {b off : Nat} {xs : List Q4} (h : At4 w b off xs) (hs : b < w'.heap.size) (hc : ∀ o, w'.cell? ⟨b, o, none⟩ = w.cell? ⟨b, o, none⟩) : At4 w' b off xs :=
  ⟨hs, fun i hi => by rw [hc, hc, hc, hc]; exact h.2 i hi⟩

theorem At4.below {w w' : World} {b off : Nat} {xs : List Q4} (h : At4 w b off xs) (hb : Below w.heap.size w w') : At4 w' b off xs :=
  h.congr (Nat.lt_of_lt_of_le h.1 hb.size) fun o => hb.cell (p := ⟨b, o, none⟩) h.1

theorem At4.belowAt {w w' : World} {b off B : Nat} {xs : List Q4} (h : At4 w b off xs) (hb : Below B w w') (hB : b < B) : At4 w' b off xs :=
  h.congr (Nat.lt_of_lt_of_le h.1 hb.size) fun o => hb.cell (p := ⟨b, o, none⟩) hB

theorem Sl4.below {w w' : World} {a : Option Addr} {xs : List Q4} (h : Sl4 w a xs) (hb : Below w.heap.size w w') : Sl4 w' a xs := by
  rcases h with h | ⟨b, off, rfl, h⟩
  · exact .inl h
  · exact .inr ⟨b, off, rfl, h.below hb⟩

theorem At4.only {w w' : World} {b off c : Nat} {xs : List Q4} (h : At4 w b off xs) (hb : Only c w w') (hc : b ≠ c) : At4 w' b off xs :=
  h.congr (by rw [hb.size]; exact h.1) fun o => hb.cell (p := ⟨b, o, none⟩) hc

/-- The numbers k, k + 1, .. laid into n rows of four. -/
def marks4 (k : Int) (n : Nat) : List Q4 := (List.range n).map fun (i : Nat) => (k + 4 * (i : Int), k + 4 * (i : Int) + 1, k + 4 * (i : Int) + 1 + 1, k + 4 * (i : Int) + 1 + 1 + 1)

theorem marks4_length (k : Int) (n : Nat) : (marks4 k n).length = n := by simp [marks4]

theorem marks4_getD (k : Int) (n i : Nat) (h : i < n) : (marks4 k n).getD i q0 = (k + 4 * (i : Int), k + 4 * (i : Int) + 1, k + 4 * (i : Int) + 1 + 1, k + 4 * (i : Int) + 1 + 1 + 1) := by
  simp [marks4, List.getD, h]

theorem take_succ_eqG {α : Type} {xs ys : List α} {k : Nat} (d : α) (hx : k < xs.length) (hy : k < ys.length) : (xs.take (k + 1) = ys.take (k + 1)) ↔ (xs.take k = ys.take k ∧ xs.getD k d = ys.getD k d) := by
  rw [List.take_succ_eq_append_getElem hx, List.take_succ_eq_append_getElem hy]
  constructor
  · intro h
    have := List.append_inj' h rfl
    refine ⟨this.1, ?_⟩
    have h2 := this.2
    simp at h2
    simp [List.getD, hx, hy, h2]
  · rintro ⟨h, h2⟩
    simp [List.getD, hx, hy] at h2
    rw [h, h2]

theorem ne_of_getDG {α : Type} [BEq α] [LawfulBEq α] {xs ys : List α} {k : Nat} (d : α) (h : xs.getD k d ≠ ys.getD k d) : (xs == ys) = false := by
  simp only [beq_eq_false_iff_ne, ne_eq]
  intro e; exact h (by rw [e])

/-- The equality of two rows, number by number. -/
def eqQ (p q : Q4) : Bool := p.1 == q.1 && p.2.1 == q.2.1 && p.2.2.1 == q.2.2.1 && p.2.2.2 == q.2.2.2
theorem eqQ_iff (p q : Q4) : eqQ p q = true ↔ p = q := by
  obtain ⟨a, b, c, d⟩ := p
  obtain ⟨a', b', c', d'⟩ := q
  simp [eqQ, and_assoc]
theorem eqQ_false (p q : Q4) : eqQ p q = false ↔ p ≠ q := by
  rw [← Bool.not_eq_true, eqQ_iff]

/-- Numbers in memory, one cell each. -/
def IntAt (w : World) (b off : Nat) (xs : List Int) : Prop :=
  b < w.heap.size ∧ ∀ i, i < xs.length → w.cell? ⟨b, off + i, none⟩ = some (.int .i64 (xs.getD i 0))

def SlI (w : World) (a : Option Addr) (xs : List Int) : Prop := xs = [] ∨ ∃ b off, a = some ⟨b, off, none⟩ ∧ IntAt w b off xs

theorem IntAt.congr {w w' : World} {b off : Nat} {xs : List Int} (h : IntAt w b off xs) (hs : b < w'.heap.size) (hc : ∀ o, w'.cell? ⟨b, o, none⟩ = w.cell? ⟨b, o, none⟩) : IntAt w' b off xs :=
  ⟨hs, fun i hi => by rw [hc]; exact h.2 i hi⟩
theorem IntAt.below {w w' : World} {b off : Nat} {xs : List Int} (h : IntAt w b off xs) (hb : Below w.heap.size w w') : IntAt w' b off xs :=
  h.congr (Nat.lt_of_lt_of_le h.1 hb.size) fun o => hb.cell (p := ⟨b, o, none⟩) h.1
theorem IntAt.belowAt {w w' : World} {b off B : Nat} {xs : List Int} (h : IntAt w b off xs) (hb : Below B w w') (hB : b < B) : IntAt w' b off xs :=
  h.congr (Nat.lt_of_lt_of_le h.1 hb.size) fun o => hb.cell (p := ⟨b, o, none⟩) hB
theorem SlI.below {w w' : World} {a : Option Addr} {xs : List Int} (h : SlI w a xs) (hb : Below w.heap.size w w') : SlI w' a xs := by
  rcases h with h | ⟨b, off, rfl, h⟩
  · exact .inl h
  · exact .inr ⟨b, off, rfl, h.below hb⟩
theorem IntAt.only {w w' : World} {b off c : Nat} {xs : List Int} (h : IntAt w b off xs) (hb : Only c w w') (hc : b ≠ c) : IntAt w' b off xs :=
  h.congr (by rw [hb.size]; exact h.1) fun o => hb.cell (p := ⟨b, o, none⟩) hc

def marks1 (k : Int) (n : Nat) : List Int := (List.range n).map fun (i : Nat) => k + (i : Int)
theorem marks1_length (k : Int) (n : Nat) : (marks1 k n).length = n := by simp [marks1]
theorem marks1_getD (k : Int) (n i : Nat) (h : i < n) : (marks1 k n).getD i 0 = k + (i : Int) := by
  simp [marks1, List.getD, h]


/-- Four cells in a row, put one behind the other. -/
theorem put4 {w : World} {b o : Nat} {x0 x1 x2 x3 : Value} (v0 v1 v2 v3 : Value) (c0 : w.cell? ⟨b, o, none⟩ = some x0) (c1 : w.cell? ⟨b, o + 1, none⟩ = some x1) (c2 : w.cell? ⟨b, o + 2, none⟩ = some x2) (c3 : w.cell? ⟨b, o + 3, none⟩ = some x3) :
    (((((w.setCell ⟨b, o, none⟩ v0).setCell ⟨b, o + 1, none⟩ v1).setCell ⟨b, o + 2, none⟩ v2).setCell ⟨b, o + 3, none⟩ v3).cell? ⟨b, o, none⟩ = some v0) ∧
    (((((w.setCell ⟨b, o, none⟩ v0).setCell ⟨b, o + 1, none⟩ v1).setCell ⟨b, o + 2, none⟩ v2).setCell ⟨b, o + 3, none⟩ v3).cell? ⟨b, o + 1, none⟩ = some v1) ∧
    (((((w.setCell ⟨b, o, none⟩ v0).setCell ⟨b, o + 1, none⟩ v1).setCell ⟨b, o + 2, none⟩ v2).setCell ⟨b, o + 3, none⟩ v3).cell? ⟨b, o + 2, none⟩ = some v2) ∧
    (((((w.setCell ⟨b, o, none⟩ v0).setCell ⟨b, o + 1, none⟩ v1).setCell ⟨b, o + 2, none⟩ v2).setCell ⟨b, o + 3, none⟩ v3).cell? ⟨b, o + 3, none⟩ = some v3) ∧
    ∀ p, (p < o ∨ o + 3 < p) → ((((w.setCell ⟨b, o, none⟩ v0).setCell ⟨b, o + 1, none⟩ v1).setCell ⟨b, o + 2, none⟩ v2).setCell ⟨b, o + 3, none⟩ v3).cell? ⟨b, p, none⟩ = w.cell? ⟨b, p, none⟩ := by
  have s := fun (W : World) (p q : Nat) (v : Value) (h : p ≠ q) => setCell_cell_other W b p q v h
  refine ⟨?_, ?_, ?_, ?_, fun p hp => ?_⟩
  · rw [s _ (o + 3) o _ (by omega), s _ (o + 2) o _ (by omega), s _ (o + 1) o _ (by omega)]
    exact setCell_cell_same _ _ _ _ x0 c0
  · rw [s _ (o + 3) (o + 1) _ (by omega), s _ (o + 2) (o + 1) _ (by omega)]
    exact setCell_cell_same _ _ _ _ x1 (by rw [s _ o (o + 1) _ (by omega)]; exact c1)
  · rw [s _ (o + 3) (o + 2) _ (by omega)]
    exact setCell_cell_same _ _ _ _ x2 (by rw [s _ (o + 1) (o + 2) _ (by omega), s _ o (o + 2) _ (by omega)]; exact c2)
  · exact setCell_cell_same _ _ _ _ x3 (by rw [s _ (o + 2) (o + 3) _ (by omega), s _ (o + 1) (o + 3) _ (by omega), s _ o (o + 3) _ (by omega)]; exact c3)
  · rw [s _ (o + 3) p _ (by omega), s _ (o + 2) p _ (by omega), s _ (o + 1) p _ (by omega), s _ o p _ (by omega)]

end Go.Proofs.Ytfifiobcmdmefaa.Own
