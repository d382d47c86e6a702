/-
  Own text: a run that a call handed back, its lists in memory of their own. Nothing of the program.
-/
import Derived.Test.YtiibonnchmphcaaPk6
namespace Go.Proofs.Ytiibonnchmphcaa.Own
open Go.RowKit
set_option linter.unusedVariables false

theorem OwnP.ownB {t : TypeId} {w : World} {B : Nat} {v : Value} {xs : List P2} (h : OwnP t w B v xs) :
    ∃ a cap, v = .slice a xs.length cap ∧ OwnB w B a xs ∧ (∀ x, a = some x → v.ownBlock = some x.block ∧ B ≤ x.block ∧ x.block < w.heap.size) := by
  obtain ⟨a, cap, hv, hs, hc, hm, hb⟩ := h.open
  refine ⟨a, cap, hv, ?_, fun x e => ?_⟩
  · rcases hs with h0 | ⟨b, off, rfl, hat⟩
    · exact .inl h0
    · obtain ⟨h1, h2, h3⟩ := hb _ rfl
      simp only at h2
      subst h2
      refine .inr ⟨b, rfl, (World.ownsRow.lt h b h1).1, hat, fun o => ?_⟩
      rw [hv] at h
      exact OwnP.frozen h o
  · obtain ⟨h1, _, _⟩ := hb x e
    exact ⟨h1, World.ownsRow.lt h x.block h1⟩

structure RunB (o : RunOut) (B : Nat) (w : World) (a1 a2 : Option Addr) : Prop where
  reads : OwnB w B a1 o.reads
  puts : OwnB w B a2 o.puts
  apart : Apart a1 a2 o.reads o.puts
  far1 : ∀ x, a1 = some x → B ≤ x.block ∧ x.block < w.heap.size
  far2 : ∀ x, a2 = some x → B ≤ x.block ∧ x.block < w.heap.size
theorem RunPost.open {o : RunOut} {B : Nat} {e : Ending} {w : World} (h : RunPost o B e w) : ∃ a1 c1 a2 c2, e = .returned (.agg #[.slice a1 o.reads.length c1, .slice a2 o.puts.length c2, .int .i64 o.val, .int .i64 o.code]) ∧ RunB o B w a1 a2 := by
  obtain ⟨rv, pv, rfl, hr, hp, ha⟩ := h
  obtain ⟨a1, c1, e1, o1, f1⟩ := hr.ownB
  obtain ⟨a2, c2, e2, o2, f2⟩ := hp.ownB
  refine ⟨a1, c1, a2, c2, by rw [e1, e2], o1, o2, .inr (.inr fun g g' eg eg' e => ?_), fun x e => (f1 x e).2, fun x e => (f2 x e).2⟩
  have h1 := (f1 _ eg).1
  have h2 := (f2 _ eg').1
  rcases ha with h | h
  · rw [h] at h1; cases h1
  · exact h (by rw [h1, h2, e])
theorem RunB.below {o : RunOut} {B : Nat} {w w' : World} {a1 a2 : Option Addr} (h : RunB o B w a1 a2) (hb : Below w.heap.size w w') : RunB o B w' a1 a2 :=
  ⟨h.reads.below hb, h.puts.below hb, h.apart, fun x e => ⟨(h.far1 x e).1, Nat.lt_of_lt_of_le (h.far1 x e).2 hb.size⟩, fun x e => ⟨(h.far2 x e).1, Nat.lt_of_lt_of_le (h.far2 x e).2 hb.size⟩⟩
theorem RunB.turned {L : List Nat} {o : RunOut} {B : Nat} {w w' : World} {a1 a2 : Option Addr} (h : RunB o B w a1 a2) (ht : Turned L w w') (h1 : ∀ x, a1 = some x → x.block ∉ L) (h2 : ∀ x, a2 = some x → x.block ∉ L) : RunB o B w' a1 a2 :=
  ⟨h.reads.turned ht (fun g e => h1 _ e), h.puts.turned ht (fun g e => h2 _ e), h.apart, fun x e => ⟨(h.far1 x e).1, Nat.lt_of_lt_of_le (h.far1 x e).2 ht.size⟩, fun x e => ⟨(h.far2 x e).1, Nat.lt_of_lt_of_le (h.far2 x e).2 ht.size⟩⟩
/-- The blocks of a run's lists. -/
def blocksOf (a1 a2 : Option Addr) : List Nat := (a1.map (·.block)).toList ++ (a2.map (·.block)).toList
theorem mem_blocksOf {a1 a2 : Option Addr} {x : Nat} : x ∈ blocksOf a1 a2 → (∃ y, a1 = some y ∧ y.block = x) ∨ (∃ y, a2 = some y ∧ y.block = x) := by
  intro h
  unfold blocksOf at h
  rw [List.mem_append, Option.mem_toList, Option.mem_toList] at h
  rcases h with h | h
  · simp only [Option.map_eq_some_iff] at h; exact .inl h
  · simp only [Option.map_eq_some_iff] at h; exact .inr h
theorem blocksOf_1 {a1 a2 : Option Addr} {g : Nat} (h : a1 = some ⟨g, 0, none⟩) : g ∈ blocksOf a1 a2 := by subst h; simp [blocksOf]
theorem blocksOf_2 {a1 a2 : Option Addr} {g : Nat} (h : a2 = some ⟨g, 0, none⟩) : g ∈ blocksOf a1 a2 := by subst h; simp [blocksOf]
end Go.Proofs.Ytiibonnchmphcaa.Own
