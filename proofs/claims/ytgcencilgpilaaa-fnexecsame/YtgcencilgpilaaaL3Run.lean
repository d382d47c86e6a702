/-
  Own text: what spec.l3Run does: drawn boxes and a run on them, bent or not.
-/
import Derived.Test.YtgcencilgpilaaaDraw
import Derived.Test.YtgcencilgpilaaaDrawBent
import Derived.Test.YtgcencilgpilaaaSpecRun
import Derived.Test.YtgcencilgpilaaaRunFacts2
import Derived.Test.YtgcencilgpilaaaBlk
namespace Go.Proofs.Ytgcencilgpilaaa.Own
open Go.RowKit
set_option linter.unusedVariables false
set_option linter.unusedSimpArgs false

/-- Drawn boxes and a run, while it is bent. -/
structure RA (w : World) (B X Z gb : Nat) (bs xs ys : List P2) (rv pv : Value) (v k : Int) : Prop where
  x : Blk w X #[rv, pv, .int .i64 v, .int .i64 k] 27
  z : Blk w Z #[.slice none 0 0, .slice none 0 0, .int .i64 0, .int .i64 0] 27
  r : OwnP 40 w B rv xs
  p : OwnP 36 w B pv ys
  ap : rv.ownBlock = none ∨ rv.ownBlock ≠ pv.ownBlock
  bx : BoxAt w gb 0 bs
  fz : ∀ o, w.frozen? ⟨gb, o, none⟩ = false
  nx : gb ≠ X ∧ gb ≠ Z ∧ X ≠ Z
  nr : ∀ g, rv.ownBlock = some g → g ≠ X ∧ g ≠ Z ∧ g ≠ gb
  np : ∀ g, pv.ownBlock = some g → g ≠ X ∧ g ≠ Z ∧ g ≠ gb
  far : B ≤ X ∧ B ≤ Z ∧ B ≤ gb

theorem Blk.grown {w w' : World} {b : Nat} {C : Array Value} {t : TypeId} {row : Option Nat} (h : Blk w b C t) (hg : w.grownBy w' row) (hn : some b ≠ row) : Blk w' b C t := by
  unfold Blk; rw [hg.block _ h.lt hn]; exact h
theorem BoxAt.grown {w w' : World} {b off : Nat} {xs : List P2} {row : Option Nat} (h : BoxAt w b off xs) (hg : w.grownBy w' row) (hn : some b ≠ row) : BoxAt w' b off xs := by
  have e : ∀ o, w'.cell? ⟨b, o, none⟩ = w.cell? ⟨b, o, none⟩ := fun o => World.cell?_of_block (w := w) (a := ⟨b, o, none⟩) (hg.block b h.1 hn)
  exact ⟨Nat.lt_of_lt_of_le h.1 hg.size, fun i hi => by rw [e, e]; exact h.2 i hi⟩
theorem frozen_grown {w w' : World} {b : Nat} {row : Option Nat} (hb : b < w.heap.size) (hg : w.grownBy w' row) (hn : some b ≠ row) (o : Nat) : w'.frozen? ⟨b, o, none⟩ = w.frozen? ⟨b, o, none⟩ :=
  World.frozen?_of_block (w := w) (a := ⟨b, o, none⟩) (hg.block b hb hn)
theorem Only.gr {rb : Nat} {w w' : World} (h : Only rb w w') : w.grownBy w' (some rb) := ⟨h.os, h.tape, h.output, Nat.le_of_eq h.size.symm, fun k _ hn => h.block k (fun e => hn (by rw [e]))⟩

theorem RA.grown {w w' : World} {B X Z gb rb : Nat} {bs xs ys : List P2} {rv pv : Value} {v k : Int} (h : RA w B X Z gb bs xs ys rv pv v k) (hg : w.grownBy w' (some rb)) (hb : rb < B) : RA w' B X Z gb bs xs ys rv pv v k := by
  obtain ⟨f1, f2, f3⟩ := h.far
  have ne : ∀ b, B ≤ b → some b ≠ some rb := fun b hb' e => by injection e with e; omega
  refine ⟨h.x.grown hg (ne _ f1), h.z.grown hg (ne _ f2), h.r.keep hg ?_, h.p.keep hg ?_, h.ap, h.bx.grown hg (ne _ f3), fun o => by rw [frozen_grown h.bx.1 hg (ne _ f3) o]; exact h.fz o, h.nx, h.nr, h.np, h.far⟩
  · cases e : rv.ownBlock with
    | none => exact .inl rfl
    | some g => exact .inr (ne _ (World.ownsRow.lt h.r g e).1)
  · cases e : pv.ownBlock with
    | none => exact .inl rfl
    | some g => exact .inr (ne _ (World.ownsRow.lt h.p g e).1)

/-- What is left where nothing but the struct's block has turned. -/
theorem RA.other {w w' : World} {B X Z gb Y : Nat} {bs xs ys : List P2} {rv pv : Value} {v k : Int} (h : RA w B X Z gb bs xs ys rv pv v k) (hg : w.grownBy w' (some Y)) (hY : Y = X ∨ Y = Z) :
    OwnP 40 w' B rv xs ∧ OwnP 36 w' B pv ys ∧ BoxAt w' gb 0 bs ∧ (∀ o, w'.frozen? ⟨gb, o, none⟩ = false) := by
  obtain ⟨n1, n2, n3⟩ := h.nx
  have ng : some gb ≠ some Y := fun e => by injection e with e; rcases hY with h | h <;> omega
  refine ⟨h.r.keep hg ?_, h.p.keep hg ?_, h.bx.grown hg ng, fun o => by rw [frozen_grown h.bx.1 hg ng o]; exact h.fz o⟩
  · cases e : rv.ownBlock with
    | none => exact .inl rfl
    | some g => obtain ⟨a, b, c⟩ := h.nr g e; exact .inr fun e => by injection e with e; rcases hY with h | h <;> omega
  · cases e : pv.ownBlock with
    | none => exact .inl rfl
    | some g => obtain ⟨a, b, c⟩ := h.np g e; exact .inr fun e => by injection e with e; rcases hY with h | h <;> omega
theorem RA.setVal {w : World} {B X Z gb : Nat} {bs xs ys : List P2} {rv pv : Value} {v k : Int} (h : RA w B X Z gb bs xs ys rv pv v k) (v' : Int) : RA (w.setCell ⟨X, 2, none⟩ (.int .i64 v')) B X Z gb bs xs ys rv pv v' k := by
  obtain ⟨a, b, c, d⟩ := h.other (w' := w.setCell ⟨X, 2, none⟩ (.int .i64 v')) (grSet (grR _ _) _) (.inl rfl)
  exact ⟨h.x.set 2 _, h.z.other (fun e => h.nx.2.2 e.symm) _ _, a, b, h.ap, c, d, h.nx, h.nr, h.np, h.far⟩
theorem RA.setCode {w : World} {B X Z gb : Nat} {bs xs ys : List P2} {rv pv : Value} {v k : Int} (h : RA w B X Z gb bs xs ys rv pv v k) (k' : Int) : RA (w.setCell ⟨X, 3, none⟩ (.int .i64 k')) B X Z gb bs xs ys rv pv v k' := by
  obtain ⟨a, b, c, d⟩ := h.other (w' := w.setCell ⟨X, 3, none⟩ (.int .i64 k')) (grSet (grR _ _) _) (.inl rfl)
  exact ⟨h.x.set 3 _, h.z.other (fun e => h.nx.2.2 e.symm) _ _, a, b, h.ap, c, d, h.nx, h.nr, h.np, h.far⟩
theorem RA.alloc {w : World} {B X Z gb : Nat} {bs xs ys : List P2} {rv pv : Value} {v k : Int} (h : RA w B X Z gb bs xs ys rv pv v k) (o : Obj) : RA (w.alloc o) B X Z gb bs xs ys rv pv v k := by
  have b : Below w.heap.size w (w.alloc o) := (Below.refl _ _).alloc (Nat.le_refl _) _
  exact ⟨h.x.keep b, h.z.keep b, h.r.below b, h.p.below b, h.ap, h.bx.below b, fun o' => by rw [b.frozen (p := ⟨gb, o', none⟩) h.bx.1]; exact h.fz o', h.nx, h.nr, h.np, h.far⟩

/-- Behind an append to what was looked into. -/
theorem RA.addR {w w1 : World} {B X Z gb gg H cap : Nat} {bs xs ys : List P2} {rv pv : Value} {v k a b : Int} (h : RA w B X Z gb bs xs ys rv pv v k) (hg : w.grownBy w1 rv.ownBlock)
    (ho : w1.ownsRow B 40 2 (.slice (some ⟨gg, 0, none⟩) (xs.length + 1) cap) (xs.length + 1) (flat xs ++ [.int .i64 a, .int .i64 b])) (hat : rv.ownBlock = some gg ∨ gg = H) (hH : w.heap.size ≤ H) :
    RA (w1.setCell ⟨X, 0, none⟩ (.slice (some ⟨gg, 0, none⟩) (xs.length + 1) cap)) B X Z gb bs (xs ++ [(a, b)]) ys (.slice (some ⟨gg, 0, none⟩) (xs.length + 1) cap) pv v k := by
  have hgg : gg ≠ X ∧ gg ≠ Z ∧ gg ≠ gb ∧ (∀ q, pv.ownBlock = some q → gg ≠ q) := by
    rcases hat with e | e
    · obtain ⟨x1, x2, x3⟩ := h.nr gg e
      refine ⟨x1, x2, x3, fun q hq e' => ?_⟩
      rcases h.ap with h' | h'
      · rw [e] at h'; cases h'
      · exact h' (by rw [e, hq, e'])
    · have l1 := h.x.lt
      have l2 := h.z.lt
      have l3 := h.bx.1
      exact ⟨by omega, by omega, by omega, fun q hq e' => by have := (World.ownsRow.lt h.p q hq).2; omega⟩
  have s1 : w1.grownBy (w1.setCell ⟨X, 0, none⟩ (.slice (some ⟨gg, 0, none⟩) (xs.length + 1) cap)) (some X) := grSet (grR _ _) _
  obtain ⟨n1, n2, n3⟩ := h.nx
  have nX : some X ≠ rv.ownBlock := fun e => (h.nr X e.symm).1 rfl
  have nZ : some Z ≠ rv.ownBlock := fun e => (h.nr Z e.symm).2.1 rfl
  have nG : some gb ≠ rv.ownBlock := fun e => (h.nr gb e.symm).2.2 rfl
  refine ⟨(h.x.grown hg nX).set 0 _, (h.z.grown hg nZ).other (fun e => n3 e.symm) _ _, ?_, ?_, .inr fun e => hgg.2.2.2 gg e.symm rfl, (h.bx.grown hg nG).grown s1 (fun e => by injection e with e; exact n1 e), fun o => ?_, h.nx, fun g e => ?_, h.np, h.far⟩
  · have o : OwnP 40 w1 B (.slice (some ⟨gg, 0, none⟩) (xs.length + 1) cap) (xs ++ [(a, b)]) := by
      unfold OwnP
      rw [List.length_append, flat_snocP]
      exact ho
    exact o.keep s1 (.inr fun e => by injection e with e; exact hgg.1 e)
  · refine (h.p.keep hg ?_).keep s1 ?_
    · rcases h.ap with h' | h'
      · rw [h']; cases pv.ownBlock <;> simp
      · exact .inr (Ne.symm h')
    · cases e : pv.ownBlock with
      | none => exact .inl rfl
      | some q => exact .inr fun e' => by injection e' with e'; exact (h.np q e).1 e'
  · rw [frozen_grown (h.bx.grown hg nG).1 s1 (fun e => by injection e with e; exact n1 e) o, frozen_grown h.bx.1 hg nG o]; exact h.fz o
  · have e' : gg = g := Option.some.inj e
    subst e'
    exact ⟨hgg.1, hgg.2.1, hgg.2.2.1⟩
/-- Behind an append to what is put. -/
theorem RA.addP {w w1 : World} {B X Z gb gg H cap : Nat} {bs xs ys : List P2} {rv pv : Value} {v k a b : Int} (h : RA w B X Z gb bs xs ys rv pv v k) (hg : w.grownBy w1 pv.ownBlock)
    (ho : w1.ownsRow B 36 2 (.slice (some ⟨gg, 0, none⟩) (ys.length + 1) cap) (ys.length + 1) (flat ys ++ [.int .i64 a, .int .i64 b])) (hat : pv.ownBlock = some gg ∨ gg = H) (hH : w.heap.size ≤ H) :
    RA (w1.setCell ⟨X, 1, none⟩ (.slice (some ⟨gg, 0, none⟩) (ys.length + 1) cap)) B X Z gb bs xs (ys ++ [(a, b)]) rv (.slice (some ⟨gg, 0, none⟩) (ys.length + 1) cap) v k := by
  have hgg : gg ≠ X ∧ gg ≠ Z ∧ gg ≠ gb ∧ (∀ q, rv.ownBlock = some q → gg ≠ q) := by
    rcases hat with e | e
    · obtain ⟨x1, x2, x3⟩ := h.np gg e
      refine ⟨x1, x2, x3, fun q hq e' => ?_⟩
      rcases h.ap with h' | h'
      · rw [hq] at h'; cases h'
      · exact h' (by rw [e, hq, e'])
    · have l1 := h.x.lt
      have l2 := h.z.lt
      have l3 := h.bx.1
      exact ⟨by omega, by omega, by omega, fun q hq e' => by have := (World.ownsRow.lt h.r q hq).2; omega⟩
  have s1 : w1.grownBy (w1.setCell ⟨X, 1, none⟩ (.slice (some ⟨gg, 0, none⟩) (ys.length + 1) cap)) (some X) := grSet (grR _ _) _
  obtain ⟨n1, n2, n3⟩ := h.nx
  have nX : some X ≠ pv.ownBlock := fun e => (h.np X e.symm).1 rfl
  have nZ : some Z ≠ pv.ownBlock := fun e => (h.np Z e.symm).2.1 rfl
  have nG : some gb ≠ pv.ownBlock := fun e => (h.np gb e.symm).2.2 rfl
  refine ⟨(h.x.grown hg nX).set 1 _, (h.z.grown hg nZ).other (fun e => n3 e.symm) _ _, ?_, ?_, ?_, (h.bx.grown hg nG).grown s1 (fun e => by injection e with e; exact n1 e), fun o => ?_, h.nx, h.nr, fun g e => ?_, h.far⟩
  · refine (h.r.keep hg ?_).keep s1 ?_
    · rcases h.ap with h' | h'
      · exact .inl h'
      · exact .inr h'
    · cases e : rv.ownBlock with
      | none => exact .inl rfl
      | some q => exact .inr fun e' => by injection e' with e'; exact (h.nr q e).1 e'
  · have o : OwnP 36 w1 B (.slice (some ⟨gg, 0, none⟩) (ys.length + 1) cap) (ys ++ [(a, b)]) := by
      unfold OwnP
      rw [List.length_append, flat_snocP]
      exact ho
    exact o.keep s1 (.inr fun e => by injection e with e; exact hgg.1 e)
  · cases e : rv.ownBlock with
    | none => exact .inl rfl
    | some q => exact .inr fun e' => hgg.2.2.2 q e (Option.some.inj e').symm
  · rw [frozen_grown (h.bx.grown hg nG).1 s1 (fun e => by injection e with e; exact n1 e) o, frozen_grown h.bx.1 hg nG o]; exact h.fz o
  · have e' : gg = g := Option.some.inj e
    subst e'
    exact ⟨hgg.1, hgg.2.1, hgg.2.2.1⟩

/-- Drawn boxes and a drawn run, all in memory of its own. -/
def DrawnRun (w w' : World) (rb B p : Nat) (e : Ending) : Prop := ∃ gb bs rv pv xs ys v k, e = .returned (.tuple #[.slice (some ⟨gb, 0, none⟩) (List.length (α := P2) bs) 4, .agg #[rv, pv, .int .i64 v, .int .i64 k]]) ∧ (3 ≤ bs.length ∧ bs.length ≤ 4 ∧ Sm bs) ∧
  (OwnP 40 w' w.heap.size rv xs ∧ OwnP 36 w' w.heap.size pv ys ∧ BoxAt w' gb 0 bs ∧ (∀ o, w'.frozen? ⟨gb, o, none⟩ = false)) ∧ (rv.ownBlock = none ∨ rv.ownBlock ≠ pv.ownBlock) ∧ (∀ g, rv.ownBlock = some g → g ≠ gb) ∧ (∀ g, pv.ownBlock = some g → g ≠ gb) ∧ w.heap.size ≤ gb ∧ (xs.length ≤ 5 ∧ ys.length ≤ 5) ∧ (∃ p', p' ≤ p + 200 ∧ Rd w' rb B p') ∧ Bar rb w w'

theorem RA.fin {w W W' : World} {X Z gb rb B p p' : Nat} {bs xs ys : List P2} {rv pv : Value} {v k : Int} (h : RA W w.heap.size X Z gb bs xs ys rv pv v k) (hl : 3 ≤ bs.length ∧ bs.length ≤ 4 ∧ Sm bs) (hx : xs.length ≤ 5 ∧ ys.length ≤ 5)
    (hR : Rd W rb B p') (hp : p' ≤ p + 200) (hbar : Bar rb w W) (hB : B ≤ w.heap.size) (hg : W.grownBy W' (some Z)) :
    DrawnRun w W' rb B p (.returned (.tuple #[.slice (some ⟨gb, 0, none⟩) (List.length (α := P2) bs) 4, .agg #[rv, pv, .int .i64 v, .int .i64 k]])) := by
  obtain ⟨f1, f2, f3⟩ := h.far
  refine ⟨gb, bs, rv, pv, xs, ys, v, k, rfl, hl, h.other hg (.inr rfl), h.ap, fun g e => (h.nr g e).2.2, fun g e => (h.np g e).2.2, f3, hx, ⟨p', hp, hR.keep hg.size fun i hi => hg.block i (Nat.lt_of_lt_of_le hi hR.2.1) (fun e => by injection e with e; omega)⟩, hbar.grown hg (fun i e => by injection e with e; omega)⟩
end Go.Proofs.Ytgcencilgpilaaa.Own
