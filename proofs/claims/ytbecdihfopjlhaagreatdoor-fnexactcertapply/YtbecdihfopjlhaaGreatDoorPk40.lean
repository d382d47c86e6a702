/-
  Own texts, bundled: ArgsEnt, Args, ArgsState, Door5.
-/
import Derived.Test.YtbecdihfopjlhaaGreatDoorPk39
import Derived.Test.YtbecdihfopjlhaaGreatDoorPk1
import Derived.ProofKit
import Derived.Deep.SlicePairs
import Derived.Test.YtbecdihfopjlhaaGreatDoorPk11
import Derived.Stop.LaidErr
namespace Go.Proofs.YtbecdihfopjlhaaGreatDoor.Own
open Go.ChangeShapes Go.WideShapes Go.ChangeAt Go.RowKit
set_option linter.unusedVariables false

theorem cellsEntry : Tryz.prog.cellsOf 67 = 7 := by kernel_rfl
theorem cellsReq : Tryz.prog.cellsOf 61 = 2 := by kernel_rfl
theorem cellsBool : Tryz.prog.cellsOf 4 = 1 := by kernel_rfl
theorem bool_cell {H : Type} {enc : TypeId × Value → H} {W : World} {n : Nat} {v : Value} {y : DataW H × List MemPlace} (t : DataW.trod enc Tryz.prog W 0 (fun _ => true) true n 4 [v] = some y) : ∃ z, v = .bool z := by
  obtain ⟨z, e, _⟩ := DataW.trod_bool Tryz.underlying4 t
  simp at e
  exact ⟨z, e⟩
theorem req_cells {H : Type} {enc : TypeId × Value → H} {W : World} {n : Nat} {v u : Value} {y : DataW H × List MemPlace} (t : DataW.trod enc Tryz.prog W 0 (fun _ => true) true n 61 [v, u] = some y) : ∃ z z', v = .int .i64 z ∧ u = .int .i64 z' ∧ Fits z ∧ Fits z' := by
  obtain ⟨xs, n, hk, hxy, hl, hxl, hfd⟩ := DataW.trod_struct Tryz.underlying61 t
  match xs, hxl with
  | [y0, y1], _ =>
    have g0 := hfd 0 _ rfl
    have g1 := hfd 1 _ rfl
    simp [cellsInt] at g0 g1
    obtain ⟨z0, rfl, f0⟩ := int_cell g0
    obtain ⟨z1, rfl, f1⟩ := int_cell g1
    exact ⟨z0, z1, rfl, rfl, f0, f1⟩

set_option maxRecDepth 100000 in
theorem openEntry {H : Type} {enc : TypeId × Value → H} {W : World} {fuel : Nat} {cs : Array Value} {x : DataW H × List MemPlace}
    (hf : DataW.trod enc Tryz.prog W 0 (fun _ => true) true fuel 67 cs.toList = some x) :
    ∃ (n : Bool) (p q : Int) (a1 a2 : Option Addr) (c1 c2 : Nat) (xs ys : List (Int × Int)) (v k : Int), cs = #[.bool n, .int .i64 p, .int .i64 q, .slice a1 xs.length c1, .slice a2 ys.length c2, .int .i64 v, .int .i64 k] ∧ Sl W a1 xs ∧ Sl W a2 ys ∧ xs.length ≤ c1 ∧ ys.length ≤ c2 ∧ c1 ≤ maxLen ∧ c2 ≤ maxLen ∧ Fits p ∧ Fits q ∧ Fits v ∧ Fits k := by
  obtain ⟨l⟩ := cs
  obtain ⟨xs, n, hk, hxy, hl, hxl, hfd⟩ := DataW.trod_struct Tryz.underlying67 hf
  rw [cellsEntry] at hl
  match xs, hxl, l, hl with
  | [y0, y1, y2], _, [v0, v1, v2, v3, v4, v5, v6], _ =>
    have g0 := hfd 0 _ rfl
    have g1 := hfd 1 _ rfl
    have g2 := hfd 2 _ rfl
    simp [cellsBool, cellsReq, cellsRun] at g0 g1 g2
    obtain ⟨b, rfl⟩ := bool_cell g0
    obtain ⟨p, q, rfl, rfl, fp, fq⟩ := req_cells g1
    obtain ⟨a1, a2, c1, c2, xs, ys, v, k, hcs, s1, s2, l1, l2, m1, m2, fv, fk⟩ := openRun (cs := #[v3, v4, v5, v6]) g2
    simp at hcs
    obtain ⟨rfl, rfl, rfl, rfl⟩ := hcs
    exact ⟨b, p, q, a1, a2, c1, c2, xs, ys, v, k, rfl, s1, s2, l1, l2, m1, m2, fp, fq, fv, fk⟩
end Go.Proofs.YtbecdihfopjlhaaGreatDoor.Own

namespace Go.Proofs.YtbecdihfopjlhaaGreatDoor.Own
open Go.ChangeShapes Go.WideShapes Go.ChangeAt Go.RowKit

theorem add_eq (b off j : Nat) : (⟨b, off, none⟩ : Addr).add j = ⟨b, off + j, none⟩ := by unfold Addr.add; split <;> simp_all

theorem openBoxes {H : Type} {enc : TypeId × Value → H} {W : World} {fuel : Nat} {a : Option Addr} {len cap : Nat} {x : DataW H × List MemPlace}
    (hf : DataW.trod enc Tryz.prog W 0 (fun _ => true) true fuel 57 [.slice a len cap] = some x) : ∃ xs : List (Int × Int), xs.length = len ∧ Sl W a xs ∧ xs.length ≤ maxLen := by
  rcases Deep.open_slice_pairs Tryz.underlying57 Tryz.underlying170 (by kernel_rfl) rfl rfl (by kernel_rfl) (by kernel_rfl) hf with ⟨hcs, _⟩ | ⟨ad, l, c, m, n, V0, V1, D0, D1, P0, P1, hcs, _, hl, hm, hmm, _, hx⟩
  · simp at hcs
    obtain ⟨rfl, rfl, rfl⟩ := hcs
    exact ⟨[], rfl, .inl rfl, by simp⟩
  · simp at hcs
    obtain ⟨rfl, rfl, rfl⟩ := hcs
    have hmm' : m = cap := by simpa using hmm
    subst hmm'
    have ex : ∀ i, i < m → ∃ p : Int × Int, W.cell? (ad.add (i * 2)) = some (.int .i64 p.1) ∧ W.cell? (ad.add (i * 2 + 1)) = some (.int .i64 p.2) := by
      intro i hi
      obtain ⟨c0, c1, t0, t1⟩ := hx i hi
      obtain ⟨z0, e0, _, _⟩ := DataW.trod_int Tryz.underlying3 t0
      obtain ⟨z1, e1, _, _⟩ := DataW.trod_int Tryz.underlying3 t1
      simp at e0 e1
      exact ⟨(z0, z1), by rw [c0, e0], by rw [c1, e1]⟩
    obtain ⟨f, hf2⟩ := Deep.choose_lt ex
    refine ⟨(List.range len).map f, by simp, ?_, by simp; omega⟩
    by_cases h0 : len = 0
    · left; simp [h0]
    right
    obtain ⟨b, off, spot⟩ := ad
    have c0 := (hf2 0 (by omega)).1
    have hspot : spot = none := by simpa [Addr.add] using World.cell?_spot c0
    subst hspot
    refine ⟨b, off, rfl, ?_, ?_⟩
    · have : W.cell? ⟨b, off, none⟩ = some (.int .i64 (f 0).1) := by simpa [Addr.add] using c0
      simp only [World.cell?] at this
      cases hq : W.heap[b]? with
      | none => simp [hq] at this
      | some o => exact (Array.getElem?_eq_some_iff.1 hq).1
    · intro i hi
      have hi' : i < len := by simpa using hi
      have := hf2 i (by omega)
      rw [add_eq, add_eq] at this
      have e : ((List.range len).map f).getD i (0, 0) = f i := by simp [List.getD, hi']
      rw [e]
      exact this

end Go.Proofs.YtbecdihfopjlhaaGreatDoor.Own

namespace Go.Proofs.YtbecdihfopjlhaaGreatDoor.Own
open Go.ChangeShapes Go.WideShapes Go.ChangeAt Go.RowKit
set_option linter.unusedVariables false

theorem cellsDone : Tryz.prog.cellsOf 173 = 4 := by kernel_rfl
theorem cellsState : Tryz.prog.cellsOf 60 = 3 := by kernel_rfl
theorem cellsBoxesA : Tryz.prog.cellsOf 57 = 1 := by kernel_rfl
theorem cellsDones : Tryz.prog.cellsOf 58 = 1 := by kernel_rfl

set_option maxRecDepth 100000 in
theorem openDones {H : Type} {enc : TypeId × Value → H} {W : World} {fuel : Nat} {a : Option Addr} {len cap : Nat} {x : DataW H × List MemPlace}
    (hf : DataW.trod enc Tryz.prog W 0 (fun _ => true) true fuel 58 [.slice a len cap] = some x) : ∃ xs : List Q4, xs.length = len ∧ Sl4 W a xs ∧ xs.length ≤ maxLen ∧ Wf4 xs := by
  rcases Deep.open_slice Tryz.underlying58 hf with ⟨hcs, _⟩ | ⟨ad, l, c, m, n, D, Pl, hcs, _, hl, hm, hmm, _, hx⟩
  · simp at hcs
    obtain ⟨rfl, rfl, rfl⟩ := hcs
    exact ⟨[], rfl, .inl rfl, by simp, fun k hk => by simp at hk⟩
  · simp at hcs
    obtain ⟨rfl, rfl, rfl⟩ := hcs
    have hmm' : m = cap := by simpa using hmm
    subst hmm'
    have ex : ∀ i, i < m → ∃ p : Q4, W.cell? (ad.add (i * 4)) = some (.int .i64 p.1) ∧ W.cell? (ad.add (i * 4 + 1)) = some (.int .i64 p.2.1) ∧ W.cell? (ad.add (i * 4 + 2)) = some (.int .i64 p.2.2.1) ∧ W.cell? (ad.add (i * 4 + 3)) = some (.int .i64 p.2.2.2) ∧ FitsQ p := by
      intro i hi
      obtain ⟨cs', h1, h2⟩ := hx i hi
      rw [cellsDone] at h1
      obtain ⟨_, hlen, hcell⟩ := World.cells?_some h1
      obtain ⟨xs, k, hk, hxy, _, hxl, hfd⟩ := DataW.trod_struct Tryz.underlying173 h2
      match xs, hxl, cs', hlen with
      | [y0, y2, y3], _, [v0, v1, v2, v3], _ =>
        have g0 := hfd 0 _ rfl
        have g2 := hfd 1 _ rfl
        have g3 := hfd 2 _ rfl
        simp [cellsInt, cellsReq] at g0 g2 g3
        obtain ⟨z0, z1, rfl, rfl, f0, f1⟩ := req_cells g0
        obtain ⟨z2, rfl, f2⟩ := int_cell g2
        obtain ⟨z3, rfl, f3⟩ := int_cell g3
        have e0 := hcell 0 (by omega)
        have e1 := hcell 1 (by omega)
        have e2 := hcell 2 (by omega)
        have e3 := hcell 3 (by omega)
        rw [Deep.add_add] at e0 e1 e2 e3
        exact ⟨(z0, z1, z2, z3), by simpa using e0, by simpa using e1, by simpa using e2, by simpa using e3, f0, f1, f2, f3⟩
    obtain ⟨f, hf2⟩ := Deep.choose_lt ex
    refine ⟨(List.range len).map f, by simp, ?_, by simp; omega, ?_⟩
    case' refine_2 =>
      intro i hi
      have hi' : i < len := by simpa using hi
      have e : ((List.range len).map f).getD i q0 = f i := by simp [List.getD, hi']
      rw [e]; exact (hf2 i (by omega)).2.2.2.2
    by_cases h0 : len = 0
    · left; simp [h0]
    right
    obtain ⟨b, off, spot⟩ := ad
    have c0 := (hf2 0 (by omega)).1
    have hspot : spot = none := by simpa [Addr.add] using World.cell?_spot c0
    subst hspot
    refine ⟨b, off, rfl, ?_, ?_⟩
    · have : W.cell? ⟨b, off, none⟩ = some (.int .i64 (f 0).1) := by simpa [Addr.add] using c0
      simp only [World.cell?] at this
      cases hq : W.heap[b]? with
      | none => simp [hq] at this
      | some o => exact (Array.getElem?_eq_some_iff.1 hq).1
    · intro i hi
      have hi' : i < len := by simpa using hi
      have := hf2 i (by omega)
      rw [add_eq4, add_eq4, add_eq4, add_eq4] at this
      have e : ((List.range len).map f).getD i q0 = f i := by simp [List.getD, hi']
      rw [e]
      exact ⟨this.1, this.2.1, this.2.2.1, this.2.2.2.1⟩

set_option maxRecDepth 100000 in
theorem openState {H : Type} {enc : TypeId × Value → H} {W : World} {fuel : Nat} {cs : Array Value} {x : DataW H × List MemPlace}
    (hf : DataW.trod enc Tryz.prog W 0 (fun _ => true) true fuel 60 cs.toList = some x) :
    ∃ (at' : Int) (a1 a2 : Option Addr) (c1 c2 : Nat) (bs : List (Int × Int)) (ds : List Q4), cs = #[.int .i64 at', .slice a1 bs.length c1, .slice a2 ds.length c2] ∧ Sl W a1 bs ∧ Sl4 W a2 ds ∧ bs.length ≤ c1 ∧ ds.length ≤ c2 ∧ c1 ≤ maxLen ∧ c2 ≤ maxLen ∧ Fits at' ∧ Wf4 ds := by
  obtain ⟨l⟩ := cs
  obtain ⟨xs, n, hk, hxy, hl, hxl, hfd⟩ := DataW.trod_struct Tryz.underlying60 hf
  rw [cellsState] at hl
  match xs, hxl, l, hl with
  | [y0, y1, y2], _, [v0, v1, v2], _ =>
    have g0 := hfd 0 _ rfl
    have g1 := hfd 1 _ rfl
    have g2 := hfd 2 _ rfl
    simp [cellsInt, cellsBoxesA, cellsDones] at g0 g1 g2
    obtain ⟨z, rfl, fz⟩ := int_cell g0
    obtain ⟨a1, l1, c1, rfl, hl1, hm1⟩ := slice_cell Tryz.underlying57 g1
    obtain ⟨a2, l2, c2, rfl, hl2, hm2⟩ := slice_cell Tryz.underlying58 g2
    obtain ⟨bs, rfl, s1, _⟩ := openBoxes g1
    obtain ⟨ds, rfl, s2, _, wf⟩ := openDones g2
    exact ⟨z, a1, a2, c1, c2, bs, ds, rfl, s1, s2, hl1, hl2, hm1, hm2, fz, wf⟩
end Go.Proofs.YtbecdihfopjlhaaGreatDoor.Own

namespace Go.Proofs.YtbecdihfopjlhaaGreatDoor.Own
open Go.RowKit Go.ChangeShapes
set_option linter.unusedVariables false

theorem errRow5 (u : TypeId) (h : Tryz.prog.typeName? 3 u = some "*errors.errorString") : u = 219 :=
  typeName_ptr_named (nm := "errors.errorString") (by kernel_rfl) (by kernel_rfl) (by decide) u h

/-- The first of the list is a sentinel: its variable, its text, its block. -/
theorem sentinel0 {P : Program} {n nm : String} {text : List UInt8} {r : List (String × DataW Unit)} {W : World} {g : Nat} {ti tp te ts : TypeId} {ms : Array (String × TypeId)} {f : Field}
    (h : laidMet P ((n, .iface nm (.ptr (.agg [.lit (.string text)]))) :: r) W)
    (hg : P.globalNamed n = some g) (ht : (P.globals[g]?).map (·.type) = some ti) (hi : P.underlying ti = some (.interface ms)) (hrow : ∀ u, P.typeName? 3 u = some nm → u = tp)
    (hp : P.underlying tp = some (.pointer te)) (he : P.underlying te = some (.struct #[f])) (hft : f.type = ts) (hfo : f.offset = 0) (hs : P.underlying ts = some .string) (hc : P.cellsOf te = 1) (hcs : P.cellsOf ts = 1) :
    ∃ (a : Addr) (s : ByteArray) (c : Array Value) (t : TypeId), W.var? P n = some #[.iface tp (.pointer (some a))] ∧ W.cell? a = some (.string s) ∧ s.data.toList = text ∧ W.heap[a.block]? = some (.cells c t (0, 0)) := by
  obtain ⟨ps, ⟨g0, t0, cs0, f0, p0, q0, hg0, ht0, hv0, hd0, _, e0⟩, _, hrows⟩ := h
  obtain rfl := Option.some.inj (hg.symm.trans hg0)
  obtain rfl := Option.some.inj (ht.symm.trans ht0)
  subst e0
  obtain ⟨l0⟩ := cs0
  have ok0 : ∀ u v, l0 = [.iface u v] → Value.okWide P W .any 0 u v := fun u v e => by
    subst e
    exact (hrows g 0 (by simp [MemPlace.row])).2 u v (by simpa using World.var?_cell hg0 hv0 0)
  obtain ⟨a0, s0, rfl, hc0, hs0, hz0, rfl⟩ := errorString_of_trod hi hrow hp he hft hfo hs hc hcs hd0 ok0
  obtain ⟨c0, t0, hb0⟩ := (hrows a0.block a0.off (by simp [MemPlace.row])).1
  exact ⟨a0, s0, c0, t0, hv0, hc0, hs0, hb0⟩

theorem six_vars {H : Type} {enc : TypeId × Value → H} {P : Program} {W : World} {sp : Nat → Bool} {n1 n2 n3 n4 n5 n6 : String} {gs : List (DataW H)} {ps : List MemPlace} (h : DataW.TrodVars enc P W sp [n1, n2, n3, n4, n5, n6] gs ps) : ∃ a b c d e f, gs = [a, b, c, d, e, f] := by
  match gs, h with
  | [a, b, c, d, e, f], _ => exact ⟨a, b, c, d, e, f, rfl⟩
  | [], h => exact h.elim
  | [_], h => obtain ⟨_, _, _, _, _, _, _, _, _, _, hs, _⟩ := h; exact hs.elim
  | [_, _], h => obtain ⟨_, _, _, _, _, _, _, _, _, _, ⟨_, _, _, _, _, _, _, _, _, _, hs, _⟩, _⟩ := h; exact hs.elim
  | [_, _, _], h => obtain ⟨_, _, _, _, _, _, _, _, _, _, ⟨_, _, _, _, _, _, _, _, _, _, ⟨_, _, _, _, _, _, _, _, _, _, hs, _⟩, _⟩, _⟩ := h; exact hs.elim
  | [_, _, _, _], h => obtain ⟨_, _, _, _, _, _, _, _, _, _, ⟨_, _, _, _, _, _, _, _, _, _, ⟨_, _, _, _, _, _, _, _, _, _, ⟨_, _, _, _, _, _, _, _, _, _, hs, _⟩, _⟩, _⟩, _⟩ := h; exact hs.elim
  | [_, _, _, _, _], h => obtain ⟨_, _, _, _, _, _, _, _, _, _, ⟨_, _, _, _, _, _, _, _, _, _, ⟨_, _, _, _, _, _, _, _, _, _, ⟨_, _, _, _, _, _, _, _, _, _, ⟨_, _, _, _, _, _, _, _, _, _, hs, _⟩, _⟩, _⟩, _⟩, _⟩ := h; exact hs.elim
  | _ :: _ :: _ :: _ :: _ :: _ :: _ :: _, h => obtain ⟨_, _, _, _, _, _, _, _, _, _, ⟨_, _, _, _, _, _, _, _, _, _, ⟨_, _, _, _, _, _, _, _, _, _, ⟨_, _, _, _, _, _, _, _, _, _, ⟨_, _, _, _, _, _, _, _, _, _, ⟨_, _, _, _, _, _, _, _, _, _, hs, _⟩, _⟩, _⟩, _⟩, _⟩, _⟩ := h; exact hs.elim

theorem cells5 : Tryz.prog.cellsOf 249 = 1 := by kernel_rfl
theorem strCells5 : Tryz.prog.cellsOf 9 = 1 := by kernel_rfl

theorem txtNe {W : World} {a b : Addr} {s t : ByteArray} {S T : List UInt8} (ha : W.cell? a = some (.string s)) (hb : W.cell? b = some (.string t)) (hs : s.data.toList = S) (ht : t.data.toList = T) (h : S ≠ T) : a ≠ b := by
  rintro rfl
  rw [ha] at hb
  injection hb with hb
  injection hb with hb
  subst hb
  exact h (hs.symm.trans ht)

set_option maxRecDepth 100000 in
/-- Of six addresses that differ pairwise. -/
theorem six_ne {a0 a1 a2 a3 a4 a5 : Addr} (h01 : a0 ≠ a1) (h02 : a0 ≠ a2) (h03 : a0 ≠ a3) (h04 : a0 ≠ a4) (h05 : a0 ≠ a5) (h12 : a1 ≠ a2) (h13 : a1 ≠ a3) (h14 : a1 ≠ a4) (h15 : a1 ≠ a5) (h23 : a2 ≠ a3) (h24 : a2 ≠ a4) (h25 : a2 ≠ a5) (h34 : a3 ≠ a4) (h35 : a3 ≠ a5) (h45 : a4 ≠ a5) :
    ∀ i j, i < 6 → j < 6 → i ≠ j → ([a0, a1, a2, a3, a4, a5].getD i a0) ≠ ([a0, a1, a2, a3, a4, a5].getD j a0) := by
  intro i j hi hj hij
  rcases (by omega : i = 0 ∨ i = 1 ∨ i = 2 ∨ i = 3 ∨ i = 4 ∨ i = 5) with rfl | rfl | rfl | rfl | rfl | rfl <;>
  rcases (by omega : j = 0 ∨ j = 1 ∨ j = 2 ∨ j = 3 ∨ j = 4 ∨ j = 5) with rfl | rfl | rfl | rfl | rfl | rfl <;>
  first
    | exact absurd rfl hij
    | assumption
    | (exact fun e => absurd e.symm (by assumption))

set_option maxRecDepth 100000 in
theorem errs_of {W : World} (h : laidMet Tryz.prog [("loop.example/thingstead/impl.errStale", Rows.laid_loop_example_thingstead_impl_errStale), ("loop.example/thingstead/impl.errFailed", Rows.laid_loop_example_thingstead_impl_errFailed), ("loop.example/thingstead/impl.errAgain", Rows.laid_loop_example_thingstead_impl_errAgain), ("loop.example/thingstead/impl.errOld", Rows.laid_loop_example_thingstead_impl_errOld), ("loop.example/thingstead/impl.errNone", Rows.laid_loop_example_thingstead_impl_errNone), ("loop.example/thingstead/impl.errRefused", Rows.laid_loop_example_thingstead_impl_errRefused)] W) : ∃ E, Errs W.heap.size W E := by
  obtain ⟨a1, s1, c1, t1, v1, x1, y1, b1⟩ := sentinel0 h (g := 1) (by kernel_rfl) (by kernel_rfl) Tryz.underlying90 errRow5 Tryz.underlying219 Tryz.underlying249 rfl rfl Tryz.underlying9 cells5 strCells5
  obtain ⟨a2, s2, c2, t2, v2, x2, y2, b2⟩ := sentinel0 h.tail (g := 2) (by kernel_rfl) (by kernel_rfl) Tryz.underlying90 errRow5 Tryz.underlying219 Tryz.underlying249 rfl rfl Tryz.underlying9 cells5 strCells5
  obtain ⟨a3, s3, c3, t3, v3, x3, y3, b3⟩ := sentinel0 h.tail.tail (g := 3) (by kernel_rfl) (by kernel_rfl) Tryz.underlying90 errRow5 Tryz.underlying219 Tryz.underlying249 rfl rfl Tryz.underlying9 cells5 strCells5
  obtain ⟨a4, s4, c4, t4, v4, x4, y4, b4⟩ := sentinel0 h.tail.tail.tail (g := 4) (by kernel_rfl) (by kernel_rfl) Tryz.underlying90 errRow5 Tryz.underlying219 Tryz.underlying249 rfl rfl Tryz.underlying9 cells5 strCells5
  obtain ⟨a5, s5, c5, t5, v5, x5, y5, b5⟩ := sentinel0 h.tail.tail.tail.tail (g := 5) (by kernel_rfl) (by kernel_rfl) Tryz.underlying90 errRow5 Tryz.underlying219 Tryz.underlying249 rfl rfl Tryz.underlying9 cells5 strCells5
  obtain ⟨a0, s0, c0, t0, v0, x0, y0, b0⟩ := sentinel0 h.tail.tail.tail.tail.tail (g := 0) (by kernel_rfl) (by kernel_rfl) Tryz.underlying90 errRow5 Tryz.underlying219 Tryz.underlying249 rfl rfl Tryz.underlying9 cells5 strCells5
  have g : ∀ {n : String} {k : Nat} {x : Value}, Tryz.prog.globalNamed n = some k → W.var? Tryz.prog n = some #[x] → W.cell? ⟨k, 0, none⟩ = some x := fun hg hv => by simpa using World.var?_cell hg hv 0
  have k5 := g (n := "loop.example/thingstead/impl.errNone") (k := 5) (by kernel_rfl) v5
  have hlow : 6 ≤ W.heap.size := by
    rcases Nat.lt_or_ge 5 W.heap.size with h | h
    · exact h
    · simp [World.cell?, Array.getElem?_eq_none h] at k5
  have lt : ∀ {a : Addr} {c : Array Value} {t : TypeId}, W.heap[a.block]? = some (.cells c t (0, 0)) → a.block < W.heap.size := fun h => (Array.getElem?_eq_some_iff.1 h).1
  refine ⟨fun i => [a0, a1, a2, a3, a4, a5].getD i a0, ⟨Nat.le_refl _, hlow, ?_, ?_, ?_, ?_, ?_, ?_, ?_, ?_⟩⟩
  · exact g (n := "loop.example/thingstead/impl.errRefused") (by kernel_rfl) v0
  · exact g (n := "loop.example/thingstead/impl.errStale") (by kernel_rfl) v1
  · exact g (n := "loop.example/thingstead/impl.errFailed") (by kernel_rfl) v2
  · exact g (n := "loop.example/thingstead/impl.errAgain") (by kernel_rfl) v3
  · exact g (n := "loop.example/thingstead/impl.errOld") (by kernel_rfl) v4
  · exact k5
  · intro i hi
    rcases (by omega : i = 0 ∨ i = 1 ∨ i = 2 ∨ i = 3 ∨ i = 4 ∨ i = 5) with rfl | rfl | rfl | rfl | rfl | rfl
    · exact ⟨lt b0, _, _, b0⟩
    · exact ⟨lt b1, _, _, b1⟩
    · exact ⟨lt b2, _, _, b2⟩
    · exact ⟨lt b3, _, _, b3⟩
    · exact ⟨lt b4, _, _, b4⟩
    · exact ⟨lt b5, _, _, b5⟩
  · exact six_ne (txtNe x0 x1 y0 y1 (by decide)) (txtNe x0 x2 y0 y2 (by decide)) (txtNe x0 x3 y0 y3 (by decide)) (txtNe x0 x4 y0 y4 (by decide)) (txtNe x0 x5 y0 y5 (by decide)) (txtNe x1 x2 y1 y2 (by decide)) (txtNe x1 x3 y1 y3 (by decide)) (txtNe x1 x4 y1 y4 (by decide)) (txtNe x1 x5 y1 y5 (by decide)) (txtNe x2 x3 y2 y3 (by decide)) (txtNe x2 x4 y2 y4 (by decide)) (txtNe x2 x5 y2 y5 (by decide)) (txtNe x3 x4 y3 y4 (by decide)) (txtNe x3 x5 y3 y5 (by decide)) (txtNe x4 x5 y4 y5 (by decide))
end Go.Proofs.YtbecdihfopjlhaaGreatDoor.Own
