/-
  Own texts, bundled: Wf4, Args4I, ArgsR, ArgsP, ArgsRun, ArgsEnt, ArgsVote, ArgsMsg, ArgsEntWf, ArgsMsgWf, Door.
-/
import Derived.Test.YtildonpdmmliaaaGreatDoorPk2
import Derived.ProofKit
import Derived.Deep.Slices
import Derived.Test.YtildonpdmmliaaaGreatDoorPk1
import Derived.Deep.SlicePairs
import Derived.Test.YtildonpdmmliaaaGreatDoorPk3
import Derived.Test.YtildonpdmmliaaaGreatDoorPk4
import Derived.Test.YtildonpdmmliaaaGreatDoorPk7
import Derived.Stop.LaidErr
import Derived.Lib.LaidTab
namespace Go.Proofs.YtildonpdmmliaaaGreatDoor.Own

def FitsQ (p : Q4) : Prop := Fits p.1 ∧ Fits p.2.1 ∧ Fits p.2.2.1 ∧ Fits p.2.2.2
def Wf4 (xs : List Q4) : Prop := ∀ k, k < xs.length → FitsQ (xs.getD k q0)

end Go.Proofs.YtildonpdmmliaaaGreatDoor.Own

namespace Go.Proofs.YtildonpdmmliaaaGreatDoor.Own
open Go.ChangeShapes Go.WideShapes Go.ChangeAt Go.RowKit

theorem add_eq4 (b off j : Nat) : (⟨b, off, none⟩ : Addr).add j = ⟨b, off + j, none⟩ := by unfold Addr.add; split <;> simp_all

theorem fits_of4 {z : Int} (h : (Lit.int .i64 z).wf = true) : Fits z := by
  simp [Lit.wf, IntKind.min, IntKind.max, IntKind.signed, IntKind.bits] at h
  exact ⟨by omega, by omega⟩

theorem int_cell {H : Type} {enc : TypeId × Value → H} {W : World} {n : Nat} {v : Value} {y : DataW H × List MemPlace} (t : DataW.trod enc Tryz.prog W 0 (fun _ => true) true n 3 [v] = some y) : ∃ z, v = .int .i64 z ∧ Fits z := by
  obtain ⟨z, e, _, f⟩ := DataW.trod_int Tryz.underlying3 t
  simp at e
  exact ⟨z, e, fits_of4 f⟩

theorem cellsInt : Tryz.prog.cellsOf 3 = 1 := by kernel_rfl
end Go.Proofs.YtildonpdmmliaaaGreatDoor.Own

namespace Go.Proofs.YtildonpdmmliaaaGreatDoor.Own
open Go.ChangeShapes Go.WideShapes Go.ChangeAt Go.RowKit


theorem openReads {H : Type} {enc : TypeId × Value → H} {W : World} {fuel : Nat} {a : Option Addr} {len cap : Nat} {x : DataW H × List MemPlace}
    (hf : DataW.trod enc Tryz.prog W 0 (fun _ => true) true fuel 24 [.slice a len cap] = some x) : ∃ xs : List (Int × Int), xs.length = len ∧ Sl W a xs ∧ xs.length ≤ maxLen := by
  rcases Deep.open_slice_pairs Tryz.underlying24 Tryz.underlying120 (by kernel_rfl) rfl rfl (by kernel_rfl) (by kernel_rfl) hf with ⟨hcs, _⟩ | ⟨ad, l, c, m, n, V0, V1, D0, D1, P0, P1, hcs, _, hl, hm, hmm, _, hx⟩
  · simp at hcs
    obtain ⟨rfl, rfl, rfl⟩ := hcs
    exact ⟨[], rfl, .inl rfl, by simp⟩
  · simp at hcs
    obtain ⟨rfl, rfl, rfl⟩ := hcs
    have hmm' : m = cap := by simpa using hmm
    subst hmm'
    have ex : ∀ i, i < m → ∃ p : Int × Int, W.cell? (ad.add (i * 2)) = some (.int .i64 p.1) ∧ W.cell? (ad.add (i * 2 + 1)) = some (.int .i64 p.2) := by
      intro i hi
      obtain ⟨c0, c1, t0, t1⟩ := hx i hi
      obtain ⟨z0, e0, _, _⟩ := DataW.trod_int Tryz.underlying3 t0
      obtain ⟨z1, e1, _, _⟩ := DataW.trod_int Tryz.underlying3 t1
      simp at e0 e1
      exact ⟨(z0, z1), by rw [c0, e0], by rw [c1, e1]⟩
    obtain ⟨f, hf2⟩ := Deep.choose_lt ex
    refine ⟨(List.range len).map f, by simp, ?_, by simp; omega⟩
    by_cases h0 : len = 0
    · left; simp [h0]
    right
    obtain ⟨b, off, spot⟩ := ad
    have c0 := (hf2 0 (by omega)).1
    have hspot : spot = none := by simpa [Addr.add] using World.cell?_spot c0
    subst hspot
    refine ⟨b, off, rfl, ?_, ?_⟩
    · have : W.cell? ⟨b, off, none⟩ = some (.int .i64 (f 0).1) := by simpa [Addr.add] using c0
      simp only [World.cell?] at this
      cases hq : W.heap[b]? with
      | none => simp [hq] at this
      | some o => exact (Array.getElem?_eq_some_iff.1 hq).1
    · intro i hi
      have hi' : i < len := by simpa using hi
      have := hf2 i (by omega)
      rw [add_eq4, add_eq4] at this
      have e : ((List.range len).map f).getD i (0, 0) = f i := by simp [List.getD, hi']
      rw [e]
      exact this

end Go.Proofs.YtildonpdmmliaaaGreatDoor.Own

namespace Go.Proofs.YtildonpdmmliaaaGreatDoor.Own
open Go.ChangeShapes Go.WideShapes Go.ChangeAt Go.RowKit


theorem openPuts {H : Type} {enc : TypeId × Value → H} {W : World} {fuel : Nat} {a : Option Addr} {len cap : Nat} {x : DataW H × List MemPlace}
    (hf : DataW.trod enc Tryz.prog W 0 (fun _ => true) true fuel 25 [.slice a len cap] = some x) : ∃ xs : List (Int × Int), xs.length = len ∧ Sl W a xs ∧ xs.length ≤ maxLen := by
  rcases Deep.open_slice_pairs Tryz.underlying25 Tryz.underlying122 (by kernel_rfl) rfl rfl (by kernel_rfl) (by kernel_rfl) hf with ⟨hcs, _⟩ | ⟨ad, l, c, m, n, V0, V1, D0, D1, P0, P1, hcs, _, hl, hm, hmm, _, hx⟩
  · simp at hcs
    obtain ⟨rfl, rfl, rfl⟩ := hcs
    exact ⟨[], rfl, .inl rfl, by simp⟩
  · simp at hcs
    obtain ⟨rfl, rfl, rfl⟩ := hcs
    have hmm' : m = cap := by simpa using hmm
    subst hmm'
    have ex : ∀ i, i < m → ∃ p : Int × Int, W.cell? (ad.add (i * 2)) = some (.int .i64 p.1) ∧ W.cell? (ad.add (i * 2 + 1)) = some (.int .i64 p.2) := by
      intro i hi
      obtain ⟨c0, c1, t0, t1⟩ := hx i hi
      obtain ⟨z0, e0, _, _⟩ := DataW.trod_int Tryz.underlying3 t0
      obtain ⟨z1, e1, _, _⟩ := DataW.trod_int Tryz.underlying3 t1
      simp at e0 e1
      exact ⟨(z0, z1), by rw [c0, e0], by rw [c1, e1]⟩
    obtain ⟨f, hf2⟩ := Deep.choose_lt ex
    refine ⟨(List.range len).map f, by simp, ?_, by simp; omega⟩
    by_cases h0 : len = 0
    · left; simp [h0]
    right
    obtain ⟨b, off, spot⟩ := ad
    have c0 := (hf2 0 (by omega)).1
    have hspot : spot = none := by simpa [Addr.add] using World.cell?_spot c0
    subst hspot
    refine ⟨b, off, rfl, ?_, ?_⟩
    · have : W.cell? ⟨b, off, none⟩ = some (.int .i64 (f 0).1) := by simpa [Addr.add] using c0
      simp only [World.cell?] at this
      cases hq : W.heap[b]? with
      | none => simp [hq] at this
      | some o => exact (Array.getElem?_eq_some_iff.1 hq).1
    · intro i hi
      have hi' : i < len := by simpa using hi
      have := hf2 i (by omega)
      rw [add_eq4, add_eq4] at this
      have e : ((List.range len).map f).getD i (0, 0) = f i := by simp [List.getD, hi']
      rw [e]
      exact this

end Go.Proofs.YtildonpdmmliaaaGreatDoor.Own

namespace Go.Proofs.YtildonpdmmliaaaGreatDoor.Own
open Go.ChangeShapes Go.WideShapes Go.ChangeAt Go.RowKit
set_option linter.unusedVariables false

theorem cellsRun : Tryz.prog.cellsOf 27 = 4 := by kernel_rfl
theorem cellsReads : Tryz.prog.cellsOf 24 = 1 := by kernel_rfl
theorem cellsPuts : Tryz.prog.cellsOf 25 = 1 := by kernel_rfl

theorem slice_cell {H : Type} {enc : TypeId × Value → H} {W : World} {n : Nat} {t e : TypeId} (ht : Tryz.prog.underlying t = some (.slice e)) {v : Value} {y : DataW H × List MemPlace} (h : DataW.trod enc Tryz.prog W 0 (fun _ => true) true n t [v] = some y) : ∃ a l c, v = .slice a l c ∧ l ≤ c ∧ c ≤ maxLen := by
  rcases Deep.open_slice ht h with ⟨hcs, _⟩ | ⟨ad, l, c, m, n, D, Pl, hcs, _, hl, hm, hmm, _, hx⟩
  · simp at hcs
    exact ⟨none, 0, 0, hcs, Nat.le_refl _, by unfold maxLen; omega⟩
  · simp at hcs
    exact ⟨_, _, _, hcs, hl, hm⟩

set_option maxRecDepth 100000 in
theorem openRun {H : Type} {enc : TypeId × Value → H} {W : World} {fuel : Nat} {cs : Array Value} {x : DataW H × List MemPlace}
    (hf : DataW.trod enc Tryz.prog W 0 (fun _ => true) true fuel 27 cs.toList = some x) :
    ∃ (a1 a2 : Option Addr) (c1 c2 : Nat) (xs ys : List (Int × Int)) (v k : Int), cs = #[.slice a1 xs.length c1, .slice a2 ys.length c2, .int .i64 v, .int .i64 k] ∧ Sl W a1 xs ∧ Sl W a2 ys ∧ xs.length ≤ c1 ∧ ys.length ≤ c2 ∧ c1 ≤ maxLen ∧ c2 ≤ maxLen ∧ Fits v ∧ Fits k := by
  obtain ⟨l⟩ := cs
  obtain ⟨xs, n, hk, hxy, hl, hxl, hfd⟩ := DataW.trod_struct Tryz.underlying27 hf
  rw [cellsRun] at hl
  match xs, hxl, l, hl with
  | [y0, y1, y2, y3], _, [v0, v1, v2, v3], _ =>
    have g0 := hfd 0 _ rfl
    have g1 := hfd 1 _ rfl
    have g2 := hfd 2 _ rfl
    have g3 := hfd 3 _ rfl
    simp [cellsInt, cellsReads, cellsPuts] at g0 g1 g2 g3
    obtain ⟨z2, rfl, f2⟩ := int_cell g2
    obtain ⟨z3, rfl, f3⟩ := int_cell g3
    obtain ⟨a1, l1, c1, rfl, hl1, hm1⟩ := slice_cell Tryz.underlying24 g0
    obtain ⟨a2, l2, c2, rfl, hl2, hm2⟩ := slice_cell Tryz.underlying25 g1
    obtain ⟨xs, rfl, s1, _⟩ := openReads g0
    obtain ⟨ys, rfl, s2, _⟩ := openPuts g1
    exact ⟨a1, a2, c1, c2, xs, ys, z2, z3, rfl, s1, s2, hl1, hl2, hm1, hm2, f2, f3⟩
end Go.Proofs.YtildonpdmmliaaaGreatDoor.Own

namespace Go.Proofs.YtildonpdmmliaaaGreatDoor.Own
open Go.ChangeShapes Go.WideShapes Go.ChangeAt Go.RowKit
set_option linter.unusedVariables false

theorem cellsEntry : Tryz.prog.cellsOf 29 = 7 := by kernel_rfl
theorem cellsReq : Tryz.prog.cellsOf 23 = 2 := by kernel_rfl
theorem cellsBool : Tryz.prog.cellsOf 4 = 1 := by kernel_rfl
theorem bool_cell {H : Type} {enc : TypeId × Value → H} {W : World} {n : Nat} {v : Value} {y : DataW H × List MemPlace} (t : DataW.trod enc Tryz.prog W 0 (fun _ => true) true n 4 [v] = some y) : ∃ z, v = .bool z := by
  obtain ⟨z, e, _⟩ := DataW.trod_bool Tryz.underlying4 t
  simp at e
  exact ⟨z, e⟩
theorem req_cells {H : Type} {enc : TypeId × Value → H} {W : World} {n : Nat} {v u : Value} {y : DataW H × List MemPlace} (t : DataW.trod enc Tryz.prog W 0 (fun _ => true) true n 23 [v, u] = some y) : ∃ z z', v = .int .i64 z ∧ u = .int .i64 z' ∧ Fits z ∧ Fits z' := by
  obtain ⟨xs, n, hk, hxy, hl, hxl, hfd⟩ := DataW.trod_struct Tryz.underlying23 t
  match xs, hxl with
  | [y0, y1], _ =>
    have g0 := hfd 0 _ rfl
    have g1 := hfd 1 _ rfl
    simp [cellsInt] at g0 g1
    obtain ⟨z0, rfl, f0⟩ := int_cell g0
    obtain ⟨z1, rfl, f1⟩ := int_cell g1
    exact ⟨z0, z1, rfl, rfl, f0, f1⟩

set_option maxRecDepth 100000 in
theorem openEntry {H : Type} {enc : TypeId × Value → H} {W : World} {fuel : Nat} {cs : Array Value} {x : DataW H × List MemPlace}
    (hf : DataW.trod enc Tryz.prog W 0 (fun _ => true) true fuel 29 cs.toList = some x) :
    ∃ (n : Bool) (p q : Int) (a1 a2 : Option Addr) (c1 c2 : Nat) (xs ys : List (Int × Int)) (v k : Int), cs = #[.bool n, .int .i64 p, .int .i64 q, .slice a1 xs.length c1, .slice a2 ys.length c2, .int .i64 v, .int .i64 k] ∧ Sl W a1 xs ∧ Sl W a2 ys ∧ xs.length ≤ c1 ∧ ys.length ≤ c2 ∧ c1 ≤ maxLen ∧ c2 ≤ maxLen ∧ Fits p ∧ Fits q ∧ Fits v ∧ Fits k := by
  obtain ⟨l⟩ := cs
  obtain ⟨xs, n, hk, hxy, hl, hxl, hfd⟩ := DataW.trod_struct Tryz.underlying29 hf
  rw [cellsEntry] at hl
  match xs, hxl, l, hl with
  | [y0, y1, y2], _, [v0, v1, v2, v3, v4, v5, v6], _ =>
    have g0 := hfd 0 _ rfl
    have g1 := hfd 1 _ rfl
    have g2 := hfd 2 _ rfl
    simp [cellsBool, cellsReq, cellsRun] at g0 g1 g2
    obtain ⟨b, rfl⟩ := bool_cell g0
    obtain ⟨p, q, rfl, rfl, fp, fq⟩ := req_cells g1
    obtain ⟨a1, a2, c1, c2, xs, ys, v, k, hcs, s1, s2, l1, l2, m1, m2, fv, fk⟩ := openRun (cs := #[v3, v4, v5, v6]) g2
    simp at hcs
    obtain ⟨rfl, rfl, rfl, rfl⟩ := hcs
    exact ⟨b, p, q, a1, a2, c1, c2, xs, ys, v, k, rfl, s1, s2, l1, l2, m1, m2, fp, fq, fv, fk⟩
end Go.Proofs.YtildonpdmmliaaaGreatDoor.Own

namespace Go.Proofs.YtildonpdmmliaaaGreatDoor.Own
open Go.ChangeShapes Go.WideShapes Go.ChangeAt Go.RowKit
set_option linter.unusedVariables false

theorem cellsVote : Tryz.prog.cellsOf 76 = 8 := by kernel_rfl
theorem cellsVotes : Tryz.prog.cellsOf 30 = 1 := by kernel_rfl

set_option maxRecDepth 100000 in
theorem openVotes {H : Type} {enc : TypeId × Value → H} {W : World} {fuel : Nat} {a : Option Addr} {len cap : Nat} {x : DataW H × List MemPlace}
    (hf : DataW.trod enc Tryz.prog W 0 (fun _ => true) true fuel 30 [.slice a len cap] = some x) : ∃ vs : List VM, vs.length = len ∧ SlV W a vs ∧ vs.length ≤ maxLen ∧ ∀ i, i < vs.length → (vs.getD i v0).b.xs.length ≤ maxLen ∧ (vs.getD i v0).b.ys.length ≤ maxLen := by
  rcases Deep.open_slice Tryz.underlying30 hf with ⟨hcs, _⟩ | ⟨ad, l, c, m, n, D, Pl, hcs, _, hl, hm, hmm, _, hx⟩
  · simp at hcs
    obtain ⟨rfl, rfl, rfl⟩ := hcs
    exact ⟨[], rfl, .inl rfl, by simp, fun k hk => by simp at hk⟩
  · simp at hcs
    obtain ⟨rfl, rfl, rfl⟩ := hcs
    have hmm' : m = cap := by simpa using hmm
    subst hmm'
    have ex : ∀ i, i < m → ∃ p : VM, ((W.cell? (ad.add (i * 8)) = some (.int .i64 p.bal) ∧ W.cell? (ad.add (i * 8 + 1)) = some (.bool p.b.n) ∧ W.cell? (ad.add (i * 8 + 2)) = some (.int .i64 p.b.p) ∧ W.cell? (ad.add (i * 8 + 3)) = some (.int .i64 p.b.q) ∧ W.cell? (ad.add (i * 8 + 4)) = some (.slice p.a1 p.b.xs.length p.c1) ∧ W.cell? (ad.add (i * 8 + 5)) = some (.slice p.a2 p.b.ys.length p.c2) ∧ W.cell? (ad.add (i * 8 + 6)) = some (.int .i64 p.b.v) ∧ W.cell? (ad.add (i * 8 + 7)) = some (.int .i64 p.b.k)) ∧ Sl W p.a1 p.b.xs ∧ Sl W p.a2 p.b.ys) ∧ p.b.xs.length ≤ maxLen ∧ p.b.ys.length ≤ maxLen := by
      intro i hi
      obtain ⟨cs', h1, h2⟩ := hx i hi
      rw [cellsVote] at h1
      obtain ⟨_, hlen, hcell⟩ := World.cells?_some h1
      obtain ⟨xs, k, hk, hxy, _, hxl, hfd⟩ := DataW.trod_struct Tryz.underlying76 h2
      match xs, hxl, cs', hlen with
      | [y0, y1], _, [u0, u1, u2, u3, u4, u5, u6, u7], _ =>
        have g0 := hfd 0 _ rfl
        have g1 := hfd 1 _ rfl
        simp [cellsInt, cellsEntry] at g0 g1
        obtain ⟨z0, rfl, f0⟩ := int_cell g0
        obtain ⟨en, ep, eq, a1, a2, c1, c2, xs, ys, v, kk, hcs, s1, s2, l1, l2, m1, m2, _⟩ := openEntry (cs := #[u1, u2, u3, u4, u5, u6, u7]) g1
        simp at hcs
        obtain ⟨rfl, rfl, rfl, rfl, rfl, rfl, rfl⟩ := hcs
        have e0 := hcell 0 (by omega)
        have e1 := hcell 1 (by omega)
        have e2 := hcell 2 (by omega)
        have e3 := hcell 3 (by omega)
        have e4 := hcell 4 (by omega)
        have e5 := hcell 5 (by omega)
        have e6 := hcell 6 (by omega)
        have e7 := hcell 7 (by omega)
        rw [Deep.add_add] at e0 e1 e2 e3 e4 e5 e6 e7
        exact ⟨⟨z0, ⟨en, ep, eq, xs, ys, v, kk⟩, a1, c1, a2, c2⟩, ⟨⟨by simpa using e0, by simpa using e1, by simpa using e2, by simpa using e3, by simpa using e4, by simpa using e5, by simpa using e6, by simpa using e7⟩, s1, s2⟩, Nat.le_trans l1 m1, Nat.le_trans l2 m2⟩
    obtain ⟨f, hf2⟩ := Deep.choose_lt ex
    have ge : ∀ i, i < len → ((List.range len).map f).getD i v0 = f i := fun i hi => by simp [List.getD, hi]
    refine ⟨(List.range len).map f, by simp, ?_, by simp; omega, fun i hi => ?_⟩
    case' refine_2 =>
      have hi' : i < len := by simpa using hi
      rw [ge i hi']; exact (hf2 i (by omega)).2
    by_cases h0 : len = 0
    · left; simp [h0]
    right
    obtain ⟨b, off, spot⟩ := ad
    have c0 := (hf2 0 (by omega)).1.1.1
    have hspot : spot = none := by simpa [Addr.add] using World.cell?_spot c0
    subst hspot
    refine ⟨b, off, rfl, ?_, ?_⟩
    · have : W.cell? ⟨b, off, none⟩ = some (.int .i64 (f 0).bal) := by simpa [Addr.add] using c0
      simp only [World.cell?] at this
      cases hq : W.heap[b]? with
      | none => simp [hq] at this
      | some o => exact (Array.getElem?_eq_some_iff.1 hq).1
    · intro i hi
      have hi' : i < len := by simpa using hi
      have := (hf2 i (by omega)).1
      rw [add_eq4, add_eq4, add_eq4, add_eq4, add_eq4, add_eq4, add_eq4, add_eq4] at this
      rw [ge i hi']
      exact this

end Go.Proofs.YtildonpdmmliaaaGreatDoor.Own

namespace Go.Proofs.YtildonpdmmliaaaGreatDoor.Own
open Go.ChangeShapes Go.WideShapes Go.ChangeAt Go.RowKit
set_option linter.unusedVariables false

theorem cellsMsg : Tryz.prog.cellsOf 32 = 13 := by kernel_rfl

set_option maxRecDepth 100000 in
theorem openMsg {H : Type} {enc : TypeId × Value → H} {W : World} {fuel : Nat} {cs : Array Value} {x : DataW H × List MemPlace}
    (hf : DataW.trod enc Tryz.prog W 0 (fun _ => true) true fuel 32 cs.toList = some x) :
    ∃ m : MM, cs = #[.int .i64 m.kind, .int .i64 m.src, .int .i64 m.dst, .int .i64 m.bal, .int .i64 m.slot, .bool m.b.n, .int .i64 m.b.p, .int .i64 m.b.q, .slice m.a1 m.b.xs.length m.c1, .slice m.a2 m.b.ys.length m.c2, .int .i64 m.b.v, .int .i64 m.b.k, .slice m.a m.vs.length m.c] ∧ InM W m ∧ Fits m.kind ∧ Fits m.src ∧ Fits m.dst ∧ Fits m.bal ∧ Fits m.slot := by
  obtain ⟨l⟩ := cs
  obtain ⟨xs, n, hk, hxy, hl, hxl, hfd⟩ := DataW.trod_struct Tryz.underlying32 hf
  rw [cellsMsg] at hl
  match xs, hxl, l, hl with
  | [y0, y1, y2, y3, y4, y5, y6], _, [u0, u1, u2, u3, u4, u5, u6, u7, u8, u9, u10, u11, u12], _ =>
    have g0 := hfd 0 _ rfl
    have g1 := hfd 1 _ rfl
    have g2 := hfd 2 _ rfl
    have g3 := hfd 3 _ rfl
    have g4 := hfd 4 _ rfl
    have g5 := hfd 5 _ rfl
    have g6 := hfd 6 _ rfl
    simp [cellsInt, cellsEntry, cellsVotes] at g0 g1 g2 g3 g4 g5 g6
    obtain ⟨z0, rfl, f0⟩ := int_cell g0
    obtain ⟨z1, rfl, f1⟩ := int_cell g1
    obtain ⟨z2, rfl, f2⟩ := int_cell g2
    obtain ⟨z3, rfl, f3⟩ := int_cell g3
    obtain ⟨z4, rfl, f4⟩ := int_cell g4
    obtain ⟨en, ep, eq, a1, a2, c1, c2, xs, ys, v, kk, hcs, s1, s2, l1, l2, m1, m2, _⟩ := openEntry (cs := #[u5, u6, u7, u8, u9, u10, u11]) g5
    simp at hcs
    obtain ⟨rfl, rfl, rfl, rfl, rfl, rfl, rfl⟩ := hcs
    obtain ⟨a, n, c, rfl, hl1, hm1⟩ := slice_cell Tryz.underlying30 g6
    obtain ⟨vs, rfl, t1, t2, t3⟩ := openVotes g6
    exact ⟨⟨z0, z1, z2, z3, z4, ⟨en, ep, eq, xs, ys, v, kk⟩, a1, c1, a2, c2, a, c, vs⟩, rfl, ⟨⟨s1, s2, t1⟩, Nat.le_trans l1 m1, Nat.le_trans l2 m2, t2, t3⟩, f0, f1, f2, f3, f4⟩
end Go.Proofs.YtildonpdmmliaaaGreatDoor.Own

namespace Go.Proofs.YtildonpdmmliaaaGreatDoor.Own
open Go.ChangeShapes Go.WideShapes Go.ChangeAt Go.RowKit
set_option linter.unusedVariables false

theorem openReadsWf {H : Type} {enc : TypeId × Value → H} {W : World} {fuel : Nat} {a : Option Addr} {len cap : Nat} {x : DataW H × List MemPlace}
    (hf : DataW.trod enc Tryz.prog W 0 (fun _ => true) true fuel 24 [.slice a len cap] = some x) : ∃ xs : List (Int × Int), xs.length = len ∧ Sl W a xs ∧ xs.length ≤ maxLen ∧ WfP xs := by
  rcases Deep.open_slice_pairs Tryz.underlying24 Tryz.underlying120 (by kernel_rfl) rfl rfl (by kernel_rfl) (by kernel_rfl) hf with ⟨hcs, _⟩ | ⟨ad, l, c, m, n, V0, V1, D0, D1, P0, P1, hcs, _, hl, hm, hmm, _, hx⟩
  · simp at hcs
    obtain ⟨rfl, rfl, rfl⟩ := hcs
    exact ⟨[], rfl, .inl rfl, by simp, fun k hk => by simp at hk⟩
  · simp at hcs
    obtain ⟨rfl, rfl, rfl⟩ := hcs
    have hmm' : m = cap := by simpa using hmm
    subst hmm'
    have ex : ∀ i, i < m → ∃ p : Int × Int, W.cell? (ad.add (i * 2)) = some (.int .i64 p.1) ∧ W.cell? (ad.add (i * 2 + 1)) = some (.int .i64 p.2) ∧ Fits p.1 ∧ Fits p.2 := by
      intro i hi
      obtain ⟨c0, c1, t0, t1⟩ := hx i hi
      obtain ⟨z0, e0, _, f0⟩ := DataW.trod_int Tryz.underlying3 t0
      obtain ⟨z1, e1, _, f1⟩ := DataW.trod_int Tryz.underlying3 t1
      simp at e0 e1
      exact ⟨(z0, z1), by rw [c0, e0], by rw [c1, e1], fits_of4 f0, fits_of4 f1⟩
    obtain ⟨f, hf2⟩ := Deep.choose_lt ex
    refine ⟨(List.range len).map f, by simp, ?_, by simp; omega, fun i hi => ?_⟩
    case' refine_2 =>
      have hi' : i < len := by simpa using hi
      have e : ((List.range len).map f).getD i (0, 0) = f i := by simp [List.getD, hi']
      rw [e]; exact (hf2 i (by omega)).2.2
    by_cases h0 : len = 0
    · left; simp [h0]
    right
    obtain ⟨b, off, spot⟩ := ad
    have c0 := (hf2 0 (by omega)).1
    have hspot : spot = none := by simpa [Addr.add] using World.cell?_spot c0
    subst hspot
    refine ⟨b, off, rfl, ?_, ?_⟩
    · have : W.cell? ⟨b, off, none⟩ = some (.int .i64 (f 0).1) := by simpa [Addr.add] using c0
      simp only [World.cell?] at this
      cases hq : W.heap[b]? with
      | none => simp [hq] at this
      | some o => exact (Array.getElem?_eq_some_iff.1 hq).1
    · intro i hi
      have hi' : i < len := by simpa using hi
      have := hf2 i (by omega)
      rw [add_eq4, add_eq4] at this
      have e : ((List.range len).map f).getD i (0, 0) = f i := by simp [List.getD, hi']
      rw [e]
      exact ⟨this.1, this.2.1⟩


theorem openPutsWf {H : Type} {enc : TypeId × Value → H} {W : World} {fuel : Nat} {a : Option Addr} {len cap : Nat} {x : DataW H × List MemPlace}
    (hf : DataW.trod enc Tryz.prog W 0 (fun _ => true) true fuel 25 [.slice a len cap] = some x) : ∃ xs : List (Int × Int), xs.length = len ∧ Sl W a xs ∧ xs.length ≤ maxLen ∧ WfP xs := by
  rcases Deep.open_slice_pairs Tryz.underlying25 Tryz.underlying122 (by kernel_rfl) rfl rfl (by kernel_rfl) (by kernel_rfl) hf with ⟨hcs, _⟩ | ⟨ad, l, c, m, n, V0, V1, D0, D1, P0, P1, hcs, _, hl, hm, hmm, _, hx⟩
  · simp at hcs
    obtain ⟨rfl, rfl, rfl⟩ := hcs
    exact ⟨[], rfl, .inl rfl, by simp, fun k hk => by simp at hk⟩
  · simp at hcs
    obtain ⟨rfl, rfl, rfl⟩ := hcs
    have hmm' : m = cap := by simpa using hmm
    subst hmm'
    have ex : ∀ i, i < m → ∃ p : Int × Int, W.cell? (ad.add (i * 2)) = some (.int .i64 p.1) ∧ W.cell? (ad.add (i * 2 + 1)) = some (.int .i64 p.2) ∧ Fits p.1 ∧ Fits p.2 := by
      intro i hi
      obtain ⟨c0, c1, t0, t1⟩ := hx i hi
      obtain ⟨z0, e0, _, f0⟩ := DataW.trod_int Tryz.underlying3 t0
      obtain ⟨z1, e1, _, f1⟩ := DataW.trod_int Tryz.underlying3 t1
      simp at e0 e1
      exact ⟨(z0, z1), by rw [c0, e0], by rw [c1, e1], fits_of4 f0, fits_of4 f1⟩
    obtain ⟨f, hf2⟩ := Deep.choose_lt ex
    refine ⟨(List.range len).map f, by simp, ?_, by simp; omega, fun i hi => ?_⟩
    case' refine_2 =>
      have hi' : i < len := by simpa using hi
      have e : ((List.range len).map f).getD i (0, 0) = f i := by simp [List.getD, hi']
      rw [e]; exact (hf2 i (by omega)).2.2
    by_cases h0 : len = 0
    · left; simp [h0]
    right
    obtain ⟨b, off, spot⟩ := ad
    have c0 := (hf2 0 (by omega)).1
    have hspot : spot = none := by simpa [Addr.add] using World.cell?_spot c0
    subst hspot
    refine ⟨b, off, rfl, ?_, ?_⟩
    · have : W.cell? ⟨b, off, none⟩ = some (.int .i64 (f 0).1) := by simpa [Addr.add] using c0
      simp only [World.cell?] at this
      cases hq : W.heap[b]? with
      | none => simp [hq] at this
      | some o => exact (Array.getElem?_eq_some_iff.1 hq).1
    · intro i hi
      have hi' : i < len := by simpa using hi
      have := hf2 i (by omega)
      rw [add_eq4, add_eq4] at this
      have e : ((List.range len).map f).getD i (0, 0) = f i := by simp [List.getD, hi']
      rw [e]
      exact ⟨this.1, this.2.1⟩


set_option maxRecDepth 100000 in
theorem openRunWf {H : Type} {enc : TypeId × Value → H} {W : World} {fuel : Nat} {cs : Array Value} {x : DataW H × List MemPlace}
    (hf : DataW.trod enc Tryz.prog W 0 (fun _ => true) true fuel 27 cs.toList = some x) :
    ∃ (a1 a2 : Option Addr) (c1 c2 : Nat) (xs ys : List (Int × Int)) (v k : Int), cs = #[.slice a1 xs.length c1, .slice a2 ys.length c2, .int .i64 v, .int .i64 k] ∧ Sl W a1 xs ∧ Sl W a2 ys ∧ xs.length ≤ c1 ∧ ys.length ≤ c2 ∧ c1 ≤ maxLen ∧ c2 ≤ maxLen ∧ Fits v ∧ Fits k ∧ WfP xs ∧ WfP ys := by
  obtain ⟨l⟩ := cs
  obtain ⟨xs, n, hk, hxy, hl, hxl, hfd⟩ := DataW.trod_struct Tryz.underlying27 hf
  rw [cellsRun] at hl
  match xs, hxl, l, hl with
  | [y0, y1, y2, y3], _, [v0, v1, v2, v3], _ =>
    have g0 := hfd 0 _ rfl
    have g1 := hfd 1 _ rfl
    have g2 := hfd 2 _ rfl
    have g3 := hfd 3 _ rfl
    simp [cellsInt, cellsReads, cellsPuts] at g0 g1 g2 g3
    obtain ⟨z2, rfl, f2⟩ := int_cell g2
    obtain ⟨z3, rfl, f3⟩ := int_cell g3
    obtain ⟨a1, l1, c1, rfl, hl1, hm1⟩ := slice_cell Tryz.underlying24 g0
    obtain ⟨a2, l2, c2, rfl, hl2, hm2⟩ := slice_cell Tryz.underlying25 g1
    obtain ⟨xs, rfl, s1, _, wx⟩ := openReadsWf g0
    obtain ⟨ys, rfl, s2, _, wy⟩ := openPutsWf g1
    exact ⟨a1, a2, c1, c2, xs, ys, z2, z3, rfl, s1, s2, hl1, hl2, hm1, hm2, f2, f3, wx, wy⟩

set_option maxRecDepth 100000 in
theorem openEntryWf {H : Type} {enc : TypeId × Value → H} {W : World} {fuel : Nat} {cs : Array Value} {x : DataW H × List MemPlace}
    (hf : DataW.trod enc Tryz.prog W 0 (fun _ => true) true fuel 29 cs.toList = some x) :
    ∃ (n : Bool) (p q : Int) (a1 a2 : Option Addr) (c1 c2 : Nat) (xs ys : List (Int × Int)) (v k : Int), cs = #[.bool n, .int .i64 p, .int .i64 q, .slice a1 xs.length c1, .slice a2 ys.length c2, .int .i64 v, .int .i64 k] ∧ Sl W a1 xs ∧ Sl W a2 ys ∧ xs.length ≤ c1 ∧ ys.length ≤ c2 ∧ c1 ≤ maxLen ∧ c2 ≤ maxLen ∧ WfE ⟨n, p, q, xs, ys, v, k⟩ := by
  obtain ⟨l⟩ := cs
  obtain ⟨xs, n, hk, hxy, hl, hxl, hfd⟩ := DataW.trod_struct Tryz.underlying29 hf
  rw [cellsEntry] at hl
  match xs, hxl, l, hl with
  | [y0, y1, y2], _, [v0, v1, v2, v3, v4, v5, v6], _ =>
    have g0 := hfd 0 _ rfl
    have g1 := hfd 1 _ rfl
    have g2 := hfd 2 _ rfl
    simp [cellsBool, cellsReq, cellsRun] at g0 g1 g2
    obtain ⟨b, rfl⟩ := bool_cell g0
    obtain ⟨p, q, rfl, rfl, fp, fq⟩ := req_cells g1
    obtain ⟨a1, a2, c1, c2, xs, ys, v, k, hcs, s1, s2, l1, l2, m1, m2, fv, fk, wx, wy⟩ := openRunWf (cs := #[v3, v4, v5, v6]) g2
    simp at hcs
    obtain ⟨rfl, rfl, rfl, rfl⟩ := hcs
    exact ⟨b, p, q, a1, a2, c1, c2, xs, ys, v, k, rfl, s1, s2, l1, l2, m1, m2, fp, fq, wx, wy, fv, fk⟩
end Go.Proofs.YtildonpdmmliaaaGreatDoor.Own

namespace Go.Proofs.YtildonpdmmliaaaGreatDoor.Own
open Go.ChangeShapes Go.WideShapes Go.ChangeAt Go.RowKit
set_option linter.unusedVariables false

set_option maxRecDepth 100000 in
theorem openVotesWf {H : Type} {enc : TypeId × Value → H} {W : World} {fuel : Nat} {a : Option Addr} {len cap : Nat} {x : DataW H × List MemPlace}
    (hf : DataW.trod enc Tryz.prog W 0 (fun _ => true) true fuel 30 [.slice a len cap] = some x) : ∃ vs : List VM, vs.length = len ∧ SlV W a vs ∧ vs.length ≤ maxLen ∧ ∀ i, i < vs.length → (vs.getD i v0).b.xs.length ≤ maxLen ∧ (vs.getD i v0).b.ys.length ≤ maxLen ∧ WfV (vs.getD i v0).body := by
  rcases Deep.open_slice Tryz.underlying30 hf with ⟨hcs, _⟩ | ⟨ad, l, c, m, n, D, Pl, hcs, _, hl, hm, hmm, _, hx⟩
  · simp at hcs
    obtain ⟨rfl, rfl, rfl⟩ := hcs
    exact ⟨[], rfl, .inl rfl, by simp, fun k hk => by simp at hk⟩
  · simp at hcs
    obtain ⟨rfl, rfl, rfl⟩ := hcs
    have hmm' : m = cap := by simpa using hmm
    subst hmm'
    have ex : ∀ i, i < m → ∃ p : VM, ((W.cell? (ad.add (i * 8)) = some (.int .i64 p.bal) ∧ W.cell? (ad.add (i * 8 + 1)) = some (.bool p.b.n) ∧ W.cell? (ad.add (i * 8 + 2)) = some (.int .i64 p.b.p) ∧ W.cell? (ad.add (i * 8 + 3)) = some (.int .i64 p.b.q) ∧ W.cell? (ad.add (i * 8 + 4)) = some (.slice p.a1 p.b.xs.length p.c1) ∧ W.cell? (ad.add (i * 8 + 5)) = some (.slice p.a2 p.b.ys.length p.c2) ∧ W.cell? (ad.add (i * 8 + 6)) = some (.int .i64 p.b.v) ∧ W.cell? (ad.add (i * 8 + 7)) = some (.int .i64 p.b.k)) ∧ Sl W p.a1 p.b.xs ∧ Sl W p.a2 p.b.ys) ∧ p.b.xs.length ≤ maxLen ∧ p.b.ys.length ≤ maxLen ∧ WfV p.body := by
      intro i hi
      obtain ⟨cs', h1, h2⟩ := hx i hi
      rw [cellsVote] at h1
      obtain ⟨_, hlen, hcell⟩ := World.cells?_some h1
      obtain ⟨xs, k, hk, hxy, _, hxl, hfd⟩ := DataW.trod_struct Tryz.underlying76 h2
      match xs, hxl, cs', hlen with
      | [y0, y1], _, [u0, u1, u2, u3, u4, u5, u6, u7], _ =>
        have g0 := hfd 0 _ rfl
        have g1 := hfd 1 _ rfl
        simp [cellsInt, cellsEntry] at g0 g1
        obtain ⟨z0, rfl, f0⟩ := int_cell g0
        obtain ⟨en, ep, eq, a1, a2, c1, c2, xs, ys, v, kk, hcs, s1, s2, l1, l2, m1, m2, wf⟩ := openEntryWf (cs := #[u1, u2, u3, u4, u5, u6, u7]) g1
        simp at hcs
        obtain ⟨rfl, rfl, rfl, rfl, rfl, rfl, rfl⟩ := hcs
        have e0 := hcell 0 (by omega)
        have e1 := hcell 1 (by omega)
        have e2 := hcell 2 (by omega)
        have e3 := hcell 3 (by omega)
        have e4 := hcell 4 (by omega)
        have e5 := hcell 5 (by omega)
        have e6 := hcell 6 (by omega)
        have e7 := hcell 7 (by omega)
        rw [Deep.add_add] at e0 e1 e2 e3 e4 e5 e6 e7
        exact ⟨⟨z0, ⟨en, ep, eq, xs, ys, v, kk⟩, a1, c1, a2, c2⟩, ⟨⟨by simpa using e0, by simpa using e1, by simpa using e2, by simpa using e3, by simpa using e4, by simpa using e5, by simpa using e6, by simpa using e7⟩, s1, s2⟩, Nat.le_trans l1 m1, Nat.le_trans l2 m2, f0, wf⟩
    obtain ⟨f, hf2⟩ := Deep.choose_lt ex
    have ge : ∀ i, i < len → ((List.range len).map f).getD i v0 = f i := fun i hi => by simp [List.getD, hi]
    refine ⟨(List.range len).map f, by simp, ?_, by simp; omega, fun i hi => ?_⟩
    case' refine_2 =>
      have hi' : i < len := by simpa using hi
      rw [ge i hi']; exact (hf2 i (by omega)).2
    by_cases h0 : len = 0
    · left; simp [h0]
    right
    obtain ⟨b, off, spot⟩ := ad
    have c0 := (hf2 0 (by omega)).1.1.1
    have hspot : spot = none := by simpa [Addr.add] using World.cell?_spot c0
    subst hspot
    refine ⟨b, off, rfl, ?_, ?_⟩
    · have : W.cell? ⟨b, off, none⟩ = some (.int .i64 (f 0).bal) := by simpa [Addr.add] using c0
      simp only [World.cell?] at this
      cases hq : W.heap[b]? with
      | none => simp [hq] at this
      | some o => exact (Array.getElem?_eq_some_iff.1 hq).1
    · intro i hi
      have hi' : i < len := by simpa using hi
      have := (hf2 i (by omega)).1
      rw [add_eq4, add_eq4, add_eq4, add_eq4, add_eq4, add_eq4, add_eq4, add_eq4] at this
      rw [ge i hi']
      exact this


set_option maxRecDepth 100000 in
theorem openMsgWf {H : Type} {enc : TypeId × Value → H} {W : World} {fuel : Nat} {cs : Array Value} {x : DataW H × List MemPlace}
    (hf : DataW.trod enc Tryz.prog W 0 (fun _ => true) true fuel 32 cs.toList = some x) :
    ∃ m : MM, cs = #[.int .i64 m.kind, .int .i64 m.src, .int .i64 m.dst, .int .i64 m.bal, .int .i64 m.slot, .bool m.b.n, .int .i64 m.b.p, .int .i64 m.b.q, .slice m.a1 m.b.xs.length m.c1, .slice m.a2 m.b.ys.length m.c2, .int .i64 m.b.v, .int .i64 m.b.k, .slice m.a m.vs.length m.c] ∧ InM W m ∧ WfM m := by
  obtain ⟨l⟩ := cs
  obtain ⟨xs, n, hk, hxy, hl, hxl, hfd⟩ := DataW.trod_struct Tryz.underlying32 hf
  rw [cellsMsg] at hl
  match xs, hxl, l, hl with
  | [y0, y1, y2, y3, y4, y5, y6], _, [u0, u1, u2, u3, u4, u5, u6, u7, u8, u9, u10, u11, u12], _ =>
    have g0 := hfd 0 _ rfl
    have g1 := hfd 1 _ rfl
    have g2 := hfd 2 _ rfl
    have g3 := hfd 3 _ rfl
    have g4 := hfd 4 _ rfl
    have g5 := hfd 5 _ rfl
    have g6 := hfd 6 _ rfl
    simp [cellsInt, cellsEntry, cellsVotes] at g0 g1 g2 g3 g4 g5 g6
    obtain ⟨z0, rfl, f0⟩ := int_cell g0
    obtain ⟨z1, rfl, f1⟩ := int_cell g1
    obtain ⟨z2, rfl, f2⟩ := int_cell g2
    obtain ⟨z3, rfl, f3⟩ := int_cell g3
    obtain ⟨z4, rfl, f4⟩ := int_cell g4
    obtain ⟨en, ep, eq, a1, a2, c1, c2, xs, ys, v, kk, hcs, s1, s2, l1, l2, m1, m2, wf⟩ := openEntryWf (cs := #[u5, u6, u7, u8, u9, u10, u11]) g5
    simp at hcs
    obtain ⟨rfl, rfl, rfl, rfl, rfl, rfl, rfl⟩ := hcs
    obtain ⟨a, n, c, rfl, hl1, hm1⟩ := slice_cell Tryz.underlying30 g6
    obtain ⟨vs, rfl, t1, t2, t3⟩ := openVotesWf g6
    exact ⟨⟨z0, z1, z2, z3, z4, ⟨en, ep, eq, xs, ys, v, kk⟩, a1, c1, a2, c2, a, c, vs⟩, rfl, ⟨⟨s1, s2, t1⟩, Nat.le_trans l1 m1, Nat.le_trans l2 m2, t2, fun i hi => ⟨(t3 i hi).1, (t3 i hi).2.1⟩⟩, f0, f1, f2, f3, f4, wf, fun i hi => by rw [bodies_getD]; rw [bodies_len] at hi; exact (t3 i hi).2.2⟩
end Go.Proofs.YtildonpdmmliaaaGreatDoor.Own

namespace Go.Proofs.YtildonpdmmliaaaGreatDoor.Own
open Go.RowKit

theorem pow10_datum : (Rows.laid_internal_strconv_uint64pow10 : DataW Unit) = Lib.tabData .u64 Lib.pow10Tab := by kernel_rfl

theorem door_of {W : World} {a b : String × DataW Unit} {r : List (String × DataW Unit)} (h : laidMet Tryz.prog (a :: b :: ("internal/strconv.uint64pow10", Rows.laid_internal_strconv_uint64pow10) :: r) W) : Tab W := by
  have h2 := h.tail.tail
  rw [pow10_datum] at h2
  exact Lib.tabIs_of_head (g := 0) (by kernel_rfl) (by kernel_rfl) Tryz.underlying146 Tryz.underlying139 (by kernel_rfl) (by kernel_rfl) h2
end Go.Proofs.YtildonpdmmliaaaGreatDoor.Own
