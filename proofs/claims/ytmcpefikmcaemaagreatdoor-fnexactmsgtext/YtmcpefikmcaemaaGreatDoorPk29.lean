/-
  Own texts, bundled: Args4I, ArgsR, ArgsP, ArgsRun, ArgsEnt.
-/
import Derived.Test.YtmcpefikmcaemaaGreatDoorPk28
import Derived.ProofKit
import Derived.Deep.Slices
import Derived.Test.YtmcpefikmcaemaaGreatDoorPk1
import Derived.Deep.SlicePairs
namespace Go.Proofs.YtmcpefikmcaemaaGreatDoor.Own
open Go.ChangeShapes Go.WideShapes Go.ChangeAt Go.RowKit

theorem add_eq4 (b off j : Nat) : (⟨b, off, none⟩ : Addr).add j = ⟨b, off + j, none⟩ := by unfold Addr.add; split <;> simp_all

theorem fits_of4 {z : Int} (h : (Lit.int .i64 z).wf = true) : Fits z := by
  simp [Lit.wf, IntKind.min, IntKind.max, IntKind.signed, IntKind.bits] at h
  exact ⟨by omega, by omega⟩

theorem int_cell {H : Type} {enc : TypeId × Value → H} {W : World} {n : Nat} {v : Value} {y : DataW H × List MemPlace} (t : DataW.trod enc Tryz.prog W 0 (fun _ => true) true n 3 [v] = some y) : ∃ z, v = .int .i64 z ∧ Fits z := by
  obtain ⟨z, e, _, f⟩ := DataW.trod_int Tryz.underlying3 t
  simp at e
  exact ⟨z, e, fits_of4 f⟩

theorem cellsInt : Tryz.prog.cellsOf 3 = 1 := by kernel_rfl
end Go.Proofs.YtmcpefikmcaemaaGreatDoor.Own

namespace Go.Proofs.YtmcpefikmcaemaaGreatDoor.Own
open Go.ChangeShapes Go.WideShapes Go.ChangeAt Go.RowKit


theorem openReads {H : Type} {enc : TypeId × Value → H} {W : World} {fuel : Nat} {a : Option Addr} {len cap : Nat} {x : DataW H × List MemPlace}
    (hf : DataW.trod enc Tryz.prog W 0 (fun _ => true) true fuel 42 [.slice a len cap] = some x) : ∃ xs : List (Int × Int), xs.length = len ∧ Sl W a xs ∧ xs.length ≤ maxLen := by
  rcases Deep.open_slice_pairs Tryz.underlying42 Tryz.underlying246 (by kernel_rfl) rfl rfl (by kernel_rfl) (by kernel_rfl) hf with ⟨hcs, _⟩ | ⟨ad, l, c, m, n, V0, V1, D0, D1, P0, P1, hcs, _, hl, hm, hmm, _, hx⟩
  · simp at hcs
    obtain ⟨rfl, rfl, rfl⟩ := hcs
    exact ⟨[], rfl, .inl rfl, by simp⟩
  · simp at hcs
    obtain ⟨rfl, rfl, rfl⟩ := hcs
    have hmm' : m = cap := by simpa using hmm
    subst hmm'
    have ex : ∀ i, i < m → ∃ p : Int × Int, W.cell? (ad.add (i * 2)) = some (.int .i64 p.1) ∧ W.cell? (ad.add (i * 2 + 1)) = some (.int .i64 p.2) := by
      intro i hi
      obtain ⟨c0, c1, t0, t1⟩ := hx i hi
      obtain ⟨z0, e0, _, _⟩ := DataW.trod_int Tryz.underlying3 t0
      obtain ⟨z1, e1, _, _⟩ := DataW.trod_int Tryz.underlying3 t1
      simp at e0 e1
      exact ⟨(z0, z1), by rw [c0, e0], by rw [c1, e1]⟩
    obtain ⟨f, hf2⟩ := Deep.choose_lt ex
    refine ⟨(List.range len).map f, by simp, ?_, by simp; omega⟩
    by_cases h0 : len = 0
    · left; simp [h0]
    right
    obtain ⟨b, off, spot⟩ := ad
    have c0 := (hf2 0 (by omega)).1
    have hspot : spot = none := by simpa [Addr.add] using World.cell?_spot c0
    subst hspot
    refine ⟨b, off, rfl, ?_, ?_⟩
    · have : W.cell? ⟨b, off, none⟩ = some (.int .i64 (f 0).1) := by simpa [Addr.add] using c0
      simp only [World.cell?] at this
      cases hq : W.heap[b]? with
      | none => simp [hq] at this
      | some o => exact (Array.getElem?_eq_some_iff.1 hq).1
    · intro i hi
      have hi' : i < len := by simpa using hi
      have := hf2 i (by omega)
      rw [add_eq4, add_eq4] at this
      have e : ((List.range len).map f).getD i (0, 0) = f i := by simp [List.getD, hi']
      rw [e]
      exact this

end Go.Proofs.YtmcpefikmcaemaaGreatDoor.Own

namespace Go.Proofs.YtmcpefikmcaemaaGreatDoor.Own
open Go.ChangeShapes Go.WideShapes Go.ChangeAt Go.RowKit


theorem openPuts {H : Type} {enc : TypeId × Value → H} {W : World} {fuel : Nat} {a : Option Addr} {len cap : Nat} {x : DataW H × List MemPlace}
    (hf : DataW.trod enc Tryz.prog W 0 (fun _ => true) true fuel 43 [.slice a len cap] = some x) : ∃ xs : List (Int × Int), xs.length = len ∧ Sl W a xs ∧ xs.length ≤ maxLen := by
  rcases Deep.open_slice_pairs Tryz.underlying43 Tryz.underlying248 (by kernel_rfl) rfl rfl (by kernel_rfl) (by kernel_rfl) hf with ⟨hcs, _⟩ | ⟨ad, l, c, m, n, V0, V1, D0, D1, P0, P1, hcs, _, hl, hm, hmm, _, hx⟩
  · simp at hcs
    obtain ⟨rfl, rfl, rfl⟩ := hcs
    exact ⟨[], rfl, .inl rfl, by simp⟩
  · simp at hcs
    obtain ⟨rfl, rfl, rfl⟩ := hcs
    have hmm' : m = cap := by simpa using hmm
    subst hmm'
    have ex : ∀ i, i < m → ∃ p : Int × Int, W.cell? (ad.add (i * 2)) = some (.int .i64 p.1) ∧ W.cell? (ad.add (i * 2 + 1)) = some (.int .i64 p.2) := by
      intro i hi
      obtain ⟨c0, c1, t0, t1⟩ := hx i hi
      obtain ⟨z0, e0, _, _⟩ := DataW.trod_int Tryz.underlying3 t0
      obtain ⟨z1, e1, _, _⟩ := DataW.trod_int Tryz.underlying3 t1
      simp at e0 e1
      exact ⟨(z0, z1), by rw [c0, e0], by rw [c1, e1]⟩
    obtain ⟨f, hf2⟩ := Deep.choose_lt ex
    refine ⟨(List.range len).map f, by simp, ?_, by simp; omega⟩
    by_cases h0 : len = 0
    · left; simp [h0]
    right
    obtain ⟨b, off, spot⟩ := ad
    have c0 := (hf2 0 (by omega)).1
    have hspot : spot = none := by simpa [Addr.add] using World.cell?_spot c0
    subst hspot
    refine ⟨b, off, rfl, ?_, ?_⟩
    · have : W.cell? ⟨b, off, none⟩ = some (.int .i64 (f 0).1) := by simpa [Addr.add] using c0
      simp only [World.cell?] at this
      cases hq : W.heap[b]? with
      | none => simp [hq] at this
      | some o => exact (Array.getElem?_eq_some_iff.1 hq).1
    · intro i hi
      have hi' : i < len := by simpa using hi
      have := hf2 i (by omega)
      rw [add_eq4, add_eq4] at this
      have e : ((List.range len).map f).getD i (0, 0) = f i := by simp [List.getD, hi']
      rw [e]
      exact this

end Go.Proofs.YtmcpefikmcaemaaGreatDoor.Own

namespace Go.Proofs.YtmcpefikmcaemaaGreatDoor.Own
open Go.ChangeShapes Go.WideShapes Go.ChangeAt Go.RowKit
set_option linter.unusedVariables false

theorem cellsRun : Tryz.prog.cellsOf 45 = 4 := by kernel_rfl
theorem cellsReads : Tryz.prog.cellsOf 42 = 1 := by kernel_rfl
theorem cellsPuts : Tryz.prog.cellsOf 43 = 1 := by kernel_rfl

theorem slice_cell {H : Type} {enc : TypeId × Value → H} {W : World} {n : Nat} {t e : TypeId} (ht : Tryz.prog.underlying t = some (.slice e)) {v : Value} {y : DataW H × List MemPlace} (h : DataW.trod enc Tryz.prog W 0 (fun _ => true) true n t [v] = some y) : ∃ a l c, v = .slice a l c ∧ l ≤ c ∧ c ≤ maxLen := by
  rcases Deep.open_slice ht h with ⟨hcs, _⟩ | ⟨ad, l, c, m, n, D, Pl, hcs, _, hl, hm, hmm, _, hx⟩
  · simp at hcs
    exact ⟨none, 0, 0, hcs, Nat.le_refl _, by unfold maxLen; omega⟩
  · simp at hcs
    exact ⟨_, _, _, hcs, hl, hm⟩

set_option maxRecDepth 100000 in
theorem openRun {H : Type} {enc : TypeId × Value → H} {W : World} {fuel : Nat} {cs : Array Value} {x : DataW H × List MemPlace}
    (hf : DataW.trod enc Tryz.prog W 0 (fun _ => true) true fuel 45 cs.toList = some x) :
    ∃ (a1 a2 : Option Addr) (c1 c2 : Nat) (xs ys : List (Int × Int)) (v k : Int), cs = #[.slice a1 xs.length c1, .slice a2 ys.length c2, .int .i64 v, .int .i64 k] ∧ Sl W a1 xs ∧ Sl W a2 ys ∧ xs.length ≤ c1 ∧ ys.length ≤ c2 ∧ c1 ≤ maxLen ∧ c2 ≤ maxLen ∧ Fits v ∧ Fits k := by
  obtain ⟨l⟩ := cs
  obtain ⟨xs, n, hk, hxy, hl, hxl, hfd⟩ := DataW.trod_struct Tryz.underlying45 hf
  rw [cellsRun] at hl
  match xs, hxl, l, hl with
  | [y0, y1, y2, y3], _, [v0, v1, v2, v3], _ =>
    have g0 := hfd 0 _ rfl
    have g1 := hfd 1 _ rfl
    have g2 := hfd 2 _ rfl
    have g3 := hfd 3 _ rfl
    simp [cellsInt, cellsReads, cellsPuts] at g0 g1 g2 g3
    obtain ⟨z2, rfl, f2⟩ := int_cell g2
    obtain ⟨z3, rfl, f3⟩ := int_cell g3
    obtain ⟨a1, l1, c1, rfl, hl1, hm1⟩ := slice_cell Tryz.underlying42 g0
    obtain ⟨a2, l2, c2, rfl, hl2, hm2⟩ := slice_cell Tryz.underlying43 g1
    obtain ⟨xs, rfl, s1, _⟩ := openReads g0
    obtain ⟨ys, rfl, s2, _⟩ := openPuts g1
    exact ⟨a1, a2, c1, c2, xs, ys, z2, z3, rfl, s1, s2, hl1, hl2, hm1, hm2, f2, f3⟩
end Go.Proofs.YtmcpefikmcaemaaGreatDoor.Own

namespace Go.Proofs.YtmcpefikmcaemaaGreatDoor.Own
open Go.ChangeShapes Go.WideShapes Go.ChangeAt Go.RowKit
set_option linter.unusedVariables false

theorem cellsEntry : Tryz.prog.cellsOf 47 = 7 := by kernel_rfl
theorem cellsReq : Tryz.prog.cellsOf 41 = 2 := by kernel_rfl
theorem cellsBool : Tryz.prog.cellsOf 4 = 1 := by kernel_rfl
theorem bool_cell {H : Type} {enc : TypeId × Value → H} {W : World} {n : Nat} {v : Value} {y : DataW H × List MemPlace} (t : DataW.trod enc Tryz.prog W 0 (fun _ => true) true n 4 [v] = some y) : ∃ z, v = .bool z := by
  obtain ⟨z, e, _⟩ := DataW.trod_bool Tryz.underlying4 t
  simp at e
  exact ⟨z, e⟩
theorem req_cells {H : Type} {enc : TypeId × Value → H} {W : World} {n : Nat} {v u : Value} {y : DataW H × List MemPlace} (t : DataW.trod enc Tryz.prog W 0 (fun _ => true) true n 41 [v, u] = some y) : ∃ z z', v = .int .i64 z ∧ u = .int .i64 z' ∧ Fits z ∧ Fits z' := by
  obtain ⟨xs, n, hk, hxy, hl, hxl, hfd⟩ := DataW.trod_struct Tryz.underlying41 t
  match xs, hxl with
  | [y0, y1], _ =>
    have g0 := hfd 0 _ rfl
    have g1 := hfd 1 _ rfl
    simp [cellsInt] at g0 g1
    obtain ⟨z0, rfl, f0⟩ := int_cell g0
    obtain ⟨z1, rfl, f1⟩ := int_cell g1
    exact ⟨z0, z1, rfl, rfl, f0, f1⟩

set_option maxRecDepth 100000 in
theorem openEntry {H : Type} {enc : TypeId × Value → H} {W : World} {fuel : Nat} {cs : Array Value} {x : DataW H × List MemPlace}
    (hf : DataW.trod enc Tryz.prog W 0 (fun _ => true) true fuel 47 cs.toList = some x) :
    ∃ (n : Bool) (p q : Int) (a1 a2 : Option Addr) (c1 c2 : Nat) (xs ys : List (Int × Int)) (v k : Int), cs = #[.bool n, .int .i64 p, .int .i64 q, .slice a1 xs.length c1, .slice a2 ys.length c2, .int .i64 v, .int .i64 k] ∧ Sl W a1 xs ∧ Sl W a2 ys ∧ xs.length ≤ c1 ∧ ys.length ≤ c2 ∧ c1 ≤ maxLen ∧ c2 ≤ maxLen ∧ Fits p ∧ Fits q ∧ Fits v ∧ Fits k := by
  obtain ⟨l⟩ := cs
  obtain ⟨xs, n, hk, hxy, hl, hxl, hfd⟩ := DataW.trod_struct Tryz.underlying47 hf
  rw [cellsEntry] at hl
  match xs, hxl, l, hl with
  | [y0, y1, y2], _, [v0, v1, v2, v3, v4, v5, v6], _ =>
    have g0 := hfd 0 _ rfl
    have g1 := hfd 1 _ rfl
    have g2 := hfd 2 _ rfl
    simp [cellsBool, cellsReq, cellsRun] at g0 g1 g2
    obtain ⟨b, rfl⟩ := bool_cell g0
    obtain ⟨p, q, rfl, rfl, fp, fq⟩ := req_cells g1
    obtain ⟨a1, a2, c1, c2, xs, ys, v, k, hcs, s1, s2, l1, l2, m1, m2, fv, fk⟩ := openRun (cs := #[v3, v4, v5, v6]) g2
    simp at hcs
    obtain ⟨rfl, rfl, rfl, rfl⟩ := hcs
    exact ⟨b, p, q, a1, a2, c1, c2, xs, ys, v, k, rfl, s1, s2, l1, l2, m1, m2, fp, fq, fv, fk⟩
end Go.Proofs.YtmcpefikmcaemaaGreatDoor.Own
