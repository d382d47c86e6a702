/-
  Own text: a block of many cells, stored and loaded whole.
-/
import Derived.Test.YtfifiobcmdmefaaNodeEq0
import Derived.Deep.MidRow
namespace Go.Proofs.Ytfifiobcmdmefaa.Own
open Go.RowKit
set_option linter.unusedVariables false
set_option linter.unusedSimpArgs false

theorem setCells_blk {b : Nat} {t : TypeId} : ∀ (l : List Value) (o : Nat) (w : World) (C : Array Value), Blk w b C t → o + l.length = C.size → Blk (w.setCells b o l) b (C.toList.take o ++ l).toArray t := by
  intro l
  induction l with
  | nil =>
    intro o w C h hs
    have : (C.toList.take o ++ []).toArray = C := by
      have hs' : o = C.size := by simpa using hs
      have ht : C.toList.take o = C.toList := List.take_of_length_le (by rw [hs']; exact Nat.le_of_eq Array.length_toList)
      rw [List.append_nil, ht]
    rw [this]; exact h
  | cons x r ih =>
    intro o w C h hs
    have hs' : o + (r.length + 1) = C.size := by simpa using hs
    have k := ih (o + 1) (w.setCell ⟨b, o, none⟩ x) (C.setIfInBounds o x) (h.set o x) (by simp; omega)
    have e : ((C.setIfInBounds o x).toList.take (o + 1) ++ r) = C.toList.take o ++ x :: r := by
      rw [Array.toList_setIfInBounds]
      apply List.ext_getElem?
      intro i
      simp only [List.getElem?_append, List.getElem?_take, List.getElem?_set, List.length_take, List.length_set, Array.length_toList, List.getElem?_cons]
      have h1 : min (o + 1) C.size = o + 1 := by omega
      have h2 : min o C.size = o := by omega
      rw [h1, h2]
      by_cases h3 : i < o
      · rw [if_pos (by omega), if_pos (by omega), if_neg (by omega), if_pos h3, if_pos h3]
      · by_cases h4 : i = o
        · subst h4
          rw [if_pos (by omega), if_pos (by omega), if_pos rfl, if_pos (by omega), if_neg (by omega), if_pos (by omega)]
        · rw [if_neg (by omega), if_neg h3, if_neg (by omega)]
          first
            | (congr 1; omega)
            | congr 1
    rw [← e]
    exact k
theorem setCells_only {b : Nat} : ∀ (l : List Value) (o : Nat) (w0 w : World), Only b w0 w → Only b w0 (w.setCells b o l) := by
  intro l
  induction l with
  | nil => intro o w0 w h; exact h
  | cons x r ih => intro o w0 w h; exact ih (o + 1) w0 _ (h.setCell x)
theorem Blk.there {w : World} {b : Nat} {C : Array Value} {t : TypeId} (h : Blk w b C t) : w.there b 0 C.size := fun j hj => by
  rw [Nat.zero_add]
  exact ⟨by rw [h.cell]; simp [hj], h.frozen j⟩
theorem Blk.range {w : World} {b : Nat} {C : Array Value} {t : TypeId} (h : Blk w b C t) : w.rangeAt b 0 C.toList := fun j v hv => by
  rw [Nat.zero_add, h.cell]
  simpa using hv
theorem loadB {P : Program} {w : World} {b : Nat} {C : Array Value} {t ty : TypeId} (h : Blk w b C t) (d : TypeDesc) (hu : P.underlying ty = some d) (hd : d.isRow = true) (hi : (P.info? ty).map (·.size) = some C.size) :
    (loadVar ty ⟨b, 0, none⟩).run P w = .ok (.agg C) w := by
  have := run_loadVar_mid w b 0 ty C.toList d h.range hu hd (by rw [hi]; simp)
  simpa using this
theorem wpList_loadB {P : Program} {ops : Array Oper} {rest : List Oper} {op : Oper} {a : Act} {w : World} {Q : Exit → Act → World → Prop} (hgd : op.guard = none) (ty : TypeId) (x : Operand) (ho : op.op = .load ty x)
    (b : Nat) (hx : a.eval x = .pointer (some ⟨b, 0, none⟩)) {C : Array Value} {t : TypeId} (hb : Blk w b C t) (d : TypeDesc) (hu : P.underlying ty = some d) (hd : d.isRow = true) (hi : (P.info? ty).map (·.size) = some C.size)
    (h : wpList P ops Q rest (a.put op.dst (.agg C)) w) : wpList P ops Q (op :: rest) a w :=
  wpList_load_mid hgd ty x ho b 0 hx C.toList d hb.range hu hd (by rw [hi]; simp) (by simpa using h)
theorem wpList_storeB {P : Program} {ops : Array Oper} {rest : List Oper} {op : Oper} {a : Act} {w : World} {Q : Exit → Act → World → Prop} (hgd : op.guard = none) (ty : TypeId) (x y : Operand) (ho : op.op = .store ty x y)
    (b : Nat) (hx : a.eval x = .pointer (some ⟨b, 0, none⟩)) {C : Array Value} {t : TypeId} (hb : Blk w b C t) (D : Array Value) (hy : a.eval y = .agg D) (hs : D.size = C.size) (hi : (P.info? ty).map (·.size) = some D.size) (h1 : D.all (·.oneCell') = true)
    (h : ∀ w', Blk w' b D t → Only b w w' → wpList P ops Q rest (a.put op.dst undef) w') : wpList P ops Q (op :: rest) a w :=
  wpList_store_mid hgd ty x y ho b 0 D hx hy (by rw [hs]; exact hb.there) hi h1 (h _ (by
    have k := setCells_blk D.toList 0 w C hb (by simpa using hs)
    simpa using k) (setCells_only _ _ _ _ (Only.refl _ _)))

/-- The number of a node that there is, or 0. -/
def idOf (i : Int) : Int := if 0 ≤ i ∧ i < 3 then i else 0
theorem nodeZ_size (z : Int) : (nodeZ z).size = 27 := rfl
theorem nodeZ_one (z : Int) : (nodeZ z).all (·.oneCell') = true := by simp [nodeZ, Value.oneCell']
theorem nodeInfo (z : Int) : (Try.prog.info? 104).map (·.size) = some (nodeZ z).size := by rw [nodeZ_size]; kernel_rfl
theorem nodeLoad {w : World} {b : Nat} {z : Int} {t : TypeId} (h : Blk w b (nodeZ z) t) : (loadVar 104 ⟨b, 0, none⟩).run Try.prog w = .ok (.agg (nodeZ z)) w :=
  loadB h _ Try.underlying104 rfl (nodeInfo z)
end Go.Proofs.Ytfifiobcmdmefaa.Own
