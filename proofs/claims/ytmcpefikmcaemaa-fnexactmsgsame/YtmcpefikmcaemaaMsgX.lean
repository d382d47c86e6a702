/-
  Own text, by program: a message in memory, and what is done with it, in one form.
-/
import Derived.Test.YtmcpefikmcaemaaMsgOps
import Derived.Test.YtmcpefikmcaemaaAccX
namespace Go.Proofs.Ytmcpefikmcaemaa.Own
open Go.RowKit
set_option linter.unusedVariables false

structure MM where
  kind : Int
  src : Int
  dst : Int
  bal : Int
  slot : Int
  b : EB
  a1 : Option Addr
  c1 : Nat
  a2 : Option Addr
  c2 : Nat
  a : Option Addr
  c : Nat
  vs : List VM
def MM.sz (x : MM) : Nat := x.b.xs.length + x.b.ys.length + (x.vs.length + sumV x.vs x.vs.length)
/-- It lies in memory, and can be read. -/
def AtM (w : World) (x : MM) : Prop := Sl w x.a1 x.b.xs ∧ Sl w x.a2 x.b.ys ∧ SlV w x.a x.vs
theorem AtM.below {w w' : World} {x : MM} (h : AtM w x) (hb : Below w.heap.size w w') : AtM w' x := ⟨h.1.below hb, h.2.1.below hb, h.2.2.below hb⟩
/-- It came in. -/
def InM (w : World) (x : MM) : Prop := AtM w x ∧ x.b.xs.length ≤ maxLen ∧ x.b.ys.length ≤ maxLen ∧ x.vs.length ≤ maxLen ∧ VM0 x.vs
theorem InM.below {w w' : World} {x : MM} (h : InM w x) (hb : Below w.heap.size w w') : InM w' x := ⟨h.1.below hb, h.2⟩
/-- Its lists are of a length that the walks take. -/
def FitM (x : MM) : Prop := x.b.xs.length ≤ 2 ^ 40 ∧ x.b.ys.length ≤ 2 ^ 40 ∧ x.b.xs.length ≤ x.c1 ∧ x.b.ys.length ≤ x.c2 ∧ x.vs.length ≤ 2 ^ 40 ∧ VLs x.vs
theorem MM.small {x : MM} (h : x.sz ≤ 1048576) : x.b.xs.length ≤ 2 ^ 40 ∧ x.b.ys.length ≤ 2 ^ 40 ∧ x.vs.length ≤ 2 ^ 40 ∧ VL0 x.vs := by
  unfold MM.sz at h
  exact ⟨by omega, by omega, by omega, VL0.ofSum (n := 1048576) (by omega) (by decide)⟩
abbrev GM := Nat × Nat × Nat × List (Nat × Nat)
/-- A copy of one's own. -/
def OwnM (w : World) (g : GM) (x : MM) : Prop := RunOwn w 0 g.1 g.2.1 x.b.xs x.b.ys ∧ CopyV w g.2.2.1 g.2.2.2 (bodies x.vs)
theorem OwnM.below {w w' : World} {g : GM} {x : MM} (h : OwnM w g x) (hb : Below w.heap.size w w') : OwnM w' g x := ⟨h.1.below hb, h.2.below hb⟩
/-- The copy, as a message that can be read. -/
def cpM (g : GM) (x : MM) : MM := { x with a1 := some ⟨g.1, 0, none⟩, c1 := x.b.xs.length, a2 := some ⟨g.2.1, 0, none⟩, c2 := x.b.ys.length, a := some ⟨g.2.2.1, 0, none⟩, c := x.vs.length, vs := vmsOf g.2.2.2 (bodies x.vs) }
theorem OwnM.at {w : World} {g : GM} {x : MM} (h : OwnM w g x) : AtM w (cpM g x) := ⟨.inr ⟨_, _, rfl, h.1.2.2.2.1⟩, .inr ⟨_, _, rfl, h.1.2.2.2.2.1⟩, h.2.sl⟩
theorem cpM_fit {x : MM} (h : x.sz ≤ 1048576) (g : GM) : FitM (cpM g x) := by
  obtain ⟨h1, h2, h3, h4⟩ := MM.small h
  exact ⟨h1, h2, Nat.le_refl _, Nat.le_refl _, by show (vmsOf _ _).length ≤ _; rw [vmsOf_len, bodies_len]; exact h3, vls_of h4 _⟩
theorem cpM_cells (x : MM) (g : GM) : (Value.agg #[.int .i64 (cpM g x).kind, .int .i64 (cpM g x).src, .int .i64 (cpM g x).dst, .int .i64 (cpM g x).bal, .int .i64 (cpM g x).slot, .bool (cpM g x).b.n, .int .i64 (cpM g x).b.p, .int .i64 (cpM g x).b.q, .slice (cpM g x).a1 (cpM g x).b.xs.length (cpM g x).c1, .slice (cpM g x).a2 (cpM g x).b.ys.length (cpM g x).c2, .int .i64 (cpM g x).b.v, .int .i64 (cpM g x).b.k, .slice (cpM g x).a (cpM g x).vs.length (cpM g x).c]) = .agg #[.int .i64 x.kind, .int .i64 x.src, .int .i64 x.dst, .int .i64 x.bal, .int .i64 x.slot, .bool x.b.n, .int .i64 x.b.p, .int .i64 x.b.q, .slice (some ⟨g.1, 0, none⟩) x.b.xs.length x.b.xs.length, .slice (some ⟨g.2.1, 0, none⟩) x.b.ys.length x.b.ys.length, .int .i64 x.b.v, .int .i64 x.b.k, .slice (some ⟨g.2.2.1, 0, none⟩) x.vs.length x.vs.length] := by
  simp only [cpM, vmsOf_len, bodies_len]

theorem szM (x : MM) (left : Int) (w : World) (h : InM w x) (h0 : 0 ≤ left) (h1 : left ≤ 2 ^ 60) :
    Calls Try.prog 15 #[.agg #[.int .i64 x.kind, .int .i64 x.src, .int .i64 x.dst, .int .i64 x.bal, .int .i64 x.slot, .bool x.b.n, .int .i64 x.b.p, .int .i64 x.b.q, .slice x.a1 x.b.xs.length x.c1, .slice x.a2 x.b.ys.length x.c2, .int .i64 x.b.v, .int .i64 x.b.k, .slice x.a x.vs.length x.c], .int .i64 left] w fun e w' => e = .returned (.int .i64 (if left < (x.sz : Nat) then -1 else left - (x.sz : Nat))) ∧ Below w.heap.size w w' :=
  szMsg x.kind x.src x.dst x.bal x.slot x.b.n x.b.p x.b.q x.a1 x.a2 x.c1 x.c2 x.b.xs x.b.ys x.b.v x.b.k x.a x.c x.vs left w h.2.1 h.2.2.1 h.1.2.2 h.2.2.2.1 h.2.2.2.2 h0 h1
theorem toM (x : MM) (w : World) (h : InM w x) (hs : x.sz ≤ 1048576) :
    Calls Try.prog 17 #[.agg #[.int .i64 x.kind, .int .i64 x.src, .int .i64 x.dst, .int .i64 x.bal, .int .i64 x.slot, .bool x.b.n, .int .i64 x.b.p, .int .i64 x.b.q, .slice x.a1 x.b.xs.length x.c1, .slice x.a2 x.b.ys.length x.c2, .int .i64 x.b.v, .int .i64 x.b.k, .slice x.a x.vs.length x.c]] w fun e w' => ∃ g : GM, e = .returned (.agg #[.int .i64 x.kind, .int .i64 x.src, .int .i64 x.dst, .int .i64 x.bal, .int .i64 x.slot, .bool x.b.n, .int .i64 x.b.p, .int .i64 x.b.q, .slice (some ⟨g.1, 0, none⟩) x.b.xs.length x.b.xs.length, .slice (some ⟨g.2.1, 0, none⟩) x.b.ys.length x.b.ys.length, .int .i64 x.b.v, .int .i64 x.b.k, .slice (some ⟨g.2.2.1, 0, none⟩) x.vs.length x.vs.length]) ∧ OwnM w' g x ∧ Below w.heap.size w w' := by
  refine (toMsg x.kind x.src x.dst x.bal x.slot x.b.n x.b.p x.b.q x.a1 x.a2 x.c1 x.c2 x.b.xs x.b.ys x.b.v x.b.k x.a x.c x.vs w h.1.1 h.1.2.1 (MM.small hs).1 (MM.small hs).2.1 h.1.2.2 (MM.small hs).2.2.1 (MM.small hs).2.2.2).mono ?_
  rintro e w' ⟨g1, g2, g, gs, rfl, ho, _, _, hc, _, hb⟩
  exact ⟨(g1, g2, g, gs), rfl, ⟨⟨Nat.zero_le _, Nat.zero_le _, ho.2.2⟩, hc⟩, hb⟩
theorem eqM (x : MM) (g g' : GM) (w : World) (h : OwnM w g x) (h' : OwnM w g' x) (hs : x.sz ≤ 1048576) :
    Calls Try.prog 19 #[.agg #[.int .i64 x.kind, .int .i64 x.src, .int .i64 x.dst, .int .i64 x.bal, .int .i64 x.slot, .bool x.b.n, .int .i64 x.b.p, .int .i64 x.b.q, .slice (some ⟨g.1, 0, none⟩) x.b.xs.length x.b.xs.length, .slice (some ⟨g.2.1, 0, none⟩) x.b.ys.length x.b.ys.length, .int .i64 x.b.v, .int .i64 x.b.k, .slice (some ⟨g.2.2.1, 0, none⟩) x.vs.length x.vs.length], .agg #[.int .i64 x.kind, .int .i64 x.src, .int .i64 x.dst, .int .i64 x.bal, .int .i64 x.slot, .bool x.b.n, .int .i64 x.b.p, .int .i64 x.b.q, .slice (some ⟨g'.1, 0, none⟩) x.b.xs.length x.b.xs.length, .slice (some ⟨g'.2.1, 0, none⟩) x.b.ys.length x.b.ys.length, .int .i64 x.b.v, .int .i64 x.b.k, .slice (some ⟨g'.2.2.1, 0, none⟩) x.vs.length x.vs.length]] w fun e w' => e = .returned (.bool true) ∧ Below w.heap.size w w' := by
  have h := eqMsg x.kind x.src x.dst x.bal x.slot x.b.n x.b.p x.b.q (some ⟨g.1, 0, none⟩) (some ⟨g.2.1, 0, none⟩) (some ⟨g'.1, 0, none⟩) (some ⟨g'.2.1, 0, none⟩) x.b.xs.length x.b.ys.length x.b.xs.length x.b.ys.length x.b.xs x.b.ys x.b.v x.b.k (some ⟨g.2.2.1, 0, none⟩) (some ⟨g'.2.2.1, 0, none⟩) x.vs.length x.vs.length (vmsOf g.2.2.2 (bodies x.vs)) (vmsOf g'.2.2.2 (bodies x.vs)) w
    h.at.1 h.at.2.1 h'.at.1 h'.at.2.1 (MM.small hs).1 (MM.small hs).2.1 h.at.2.2 h'.at.2.2 (by rw [vmsOf_bodies, vmsOf_bodies]) (by rw [vmsOf_len, bodies_len]; exact (MM.small hs).2.2.1) ((MM.small hs).2.2.2.vms g.2.2.2)
  rw [vmsOf_len, vmsOf_len, bodies_len] at h
  exact h
end Go.Proofs.Ytmcpefikmcaemaa.Own
