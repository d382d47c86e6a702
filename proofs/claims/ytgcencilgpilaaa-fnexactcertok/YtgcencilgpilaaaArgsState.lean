/-
  Own text: what there is, as it came in, opened.
-/
import Derived.Test.YtgcencilgpilaaaArgsEnt
import Derived.Test.YtgcencilgpilaaaArgs
namespace Go.Proofs.Ytgcencilgpilaaa.Own
open Go.ChangeShapes Go.WideShapes Go.ChangeAt Go.RowKit
set_option linter.unusedVariables false

theorem cellsDone : Try.prog.cellsOf 170 = 4 := by kernel_rfl
theorem cellsState : Try.prog.cellsOf 77 = 3 := by kernel_rfl
theorem cellsBoxesA : Try.prog.cellsOf 56 = 1 := by kernel_rfl
theorem cellsDones : Try.prog.cellsOf 75 = 1 := by kernel_rfl

set_option maxRecDepth 100000 in
theorem openDones {H : Type} {enc : TypeId × Value → H} {W : World} {fuel : Nat} {a : Option Addr} {len cap : Nat} {x : DataW H × List MemPlace}
    (hf : DataW.trod enc Try.prog W 0 (fun _ => true) true fuel 75 [.slice a len cap] = some x) : ∃ xs : List Q4, xs.length = len ∧ Sl4 W a xs ∧ xs.length ≤ maxLen ∧ Wf4 xs := by
  rcases Deep.open_slice Try.underlying75 hf with ⟨hcs, _⟩ | ⟨ad, l, c, m, n, D, Pl, hcs, _, hl, hm, hmm, _, hx⟩
  · simp at hcs
    obtain ⟨rfl, rfl, rfl⟩ := hcs
    exact ⟨[], rfl, .inl rfl, by simp, fun k hk => by simp at hk⟩
  · simp at hcs
    obtain ⟨rfl, rfl, rfl⟩ := hcs
    have hmm' : m = cap := by simpa using hmm
    subst hmm'
    have ex : ∀ i, i < m → ∃ p : Q4, W.cell? (ad.add (i * 4)) = some (.int .i64 p.1) ∧ W.cell? (ad.add (i * 4 + 1)) = some (.int .i64 p.2.1) ∧ W.cell? (ad.add (i * 4 + 2)) = some (.int .i64 p.2.2.1) ∧ W.cell? (ad.add (i * 4 + 3)) = some (.int .i64 p.2.2.2) ∧ FitsQ p := by
      intro i hi
      obtain ⟨cs', h1, h2⟩ := hx i hi
      rw [cellsDone] at h1
      obtain ⟨_, hlen, hcell⟩ := World.cells?_some h1
      obtain ⟨xs, k, hk, hxy, _, hxl, hfd⟩ := DataW.trod_struct Try.underlying170 h2
      match xs, hxl, cs', hlen with
      | [y0, y2, y3], _, [v0, v1, v2, v3], _ =>
        have g0 := hfd 0 _ rfl
        have g2 := hfd 1 _ rfl
        have g3 := hfd 2 _ rfl
        simp [cellsInt, cellsReq] at g0 g2 g3
        obtain ⟨z0, z1, rfl, rfl, f0, f1⟩ := req_cells g0
        obtain ⟨z2, rfl, f2⟩ := int_cell g2
        obtain ⟨z3, rfl, f3⟩ := int_cell g3
        have e0 := hcell 0 (by omega)
        have e1 := hcell 1 (by omega)
        have e2 := hcell 2 (by omega)
        have e3 := hcell 3 (by omega)
        rw [Deep.add_add] at e0 e1 e2 e3
        exact ⟨(z0, z1, z2, z3), by simpa using e0, by simpa using e1, by simpa using e2, by simpa using e3, f0, f1, f2, f3⟩
    obtain ⟨f, hf2⟩ := Deep.choose_lt ex
    refine ⟨(List.range len).map f, by simp, ?_, by simp; omega, ?_⟩
    case' refine_2 =>
      intro i hi
      have hi' : i < len := by simpa using hi
      have e : ((List.range len).map f).getD i q0 = f i := by simp [List.getD, hi']
      rw [e]; exact (hf2 i (by omega)).2.2.2.2
    by_cases h0 : len = 0
    · left; simp [h0]
    right
    obtain ⟨b, off, spot⟩ := ad
    have c0 := (hf2 0 (by omega)).1
    have hspot : spot = none := by simpa [Addr.add] using World.cell?_spot c0
    subst hspot
    refine ⟨b, off, rfl, ?_, ?_⟩
    · have : W.cell? ⟨b, off, none⟩ = some (.int .i64 (f 0).1) := by simpa [Addr.add] using c0
      simp only [World.cell?] at this
      cases hq : W.heap[b]? with
      | none => simp [hq] at this
      | some o => exact (Array.getElem?_eq_some_iff.1 hq).1
    · intro i hi
      have hi' : i < len := by simpa using hi
      have := hf2 i (by omega)
      rw [add_eq4, add_eq4, add_eq4, add_eq4] at this
      have e : ((List.range len).map f).getD i q0 = f i := by simp [List.getD, hi']
      rw [e]
      exact ⟨this.1, this.2.1, this.2.2.1, this.2.2.2.1⟩

set_option maxRecDepth 100000 in
theorem openState {H : Type} {enc : TypeId × Value → H} {W : World} {fuel : Nat} {cs : Array Value} {x : DataW H × List MemPlace}
    (hf : DataW.trod enc Try.prog W 0 (fun _ => true) true fuel 77 cs.toList = some x) :
    ∃ (at' : Int) (a1 a2 : Option Addr) (c1 c2 : Nat) (bs : List (Int × Int)) (ds : List Q4), cs = #[.int .i64 at', .slice a1 bs.length c1, .slice a2 ds.length c2] ∧ Sl W a1 bs ∧ Sl4 W a2 ds ∧ bs.length ≤ c1 ∧ ds.length ≤ c2 ∧ c1 ≤ maxLen ∧ c2 ≤ maxLen ∧ Fits at' ∧ Wf4 ds := by
  obtain ⟨l⟩ := cs
  obtain ⟨xs, n, hk, hxy, hl, hxl, hfd⟩ := DataW.trod_struct Try.underlying77 hf
  rw [cellsState] at hl
  match xs, hxl, l, hl with
  | [y0, y1, y2], _, [v0, v1, v2], _ =>
    have g0 := hfd 0 _ rfl
    have g1 := hfd 1 _ rfl
    have g2 := hfd 2 _ rfl
    simp [cellsInt, cellsBoxesA, cellsDones] at g0 g1 g2
    obtain ⟨z, rfl, fz⟩ := int_cell g0
    obtain ⟨a1, l1, c1, rfl, hl1, hm1⟩ := slice_cell Try.underlying56 g1
    obtain ⟨a2, l2, c2, rfl, hl2, hm2⟩ := slice_cell Try.underlying75 g2
    obtain ⟨bs, rfl, s1, _⟩ := openBoxes g1
    obtain ⟨ds, rfl, s2, _, wf⟩ := openDones g2
    exact ⟨z, a1, a2, c1, c2, bs, ds, rfl, s1, s2, hl1, hl2, hm1, hm2, fz, wf⟩
end Go.Proofs.Ytgcencilgpilaaa.Own
