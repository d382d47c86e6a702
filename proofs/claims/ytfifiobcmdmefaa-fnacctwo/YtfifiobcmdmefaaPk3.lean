/-
  Own texts, bundled: OwnBox, Own2, Bar, Grow, L3Look, L3Put, RunHeld, ExecOkI, StillTail, FreshMath, DoMath, L3StepA.
-/
import Derived.Test.YtfifiobcmdmefaaPk1
import Derived.Test.YtfifiobcmdmefaaPk2
import Derived.OwnWalk
import Derived.Maps.AppendAt
import Derived.Deep.RegionLaw
import Derived.Deep.AppendLies
import Derived.StillTactics
import Derived.Laws.Pointers
import Derived.StillTailTactics
import Derived.BigQuiet
import Derived.Deep.QuietTactic
import Derived.Deep.Cut
import Derived.Deep.CutRange
import Derived.Deep.RegionWith
namespace Go.Proofs.Ytfifiobcmdmefaa.Own
open Go.RowKit

theorem owned_box {w : World} {base m : Nat} {v : Value} {xs : List (Int × Int)} (h : w.ownsRow base 214 2 v m (flat xs)) (hm : 0 < m) :
    ∃ g cap, v = .slice (some ⟨g, 0, none⟩) m cap ∧ base ≤ g ∧ m ≤ cap ∧ BoxAt w g 0 xs ∧ (∀ o, w.frozen? ⟨g, o, none⟩ = false) := by
  obtain ⟨hl, h⟩ := h
  rcases h with ⟨_, h0⟩ | ⟨g, cap, cur, hv, hb, hh, hmc, _, hsz, htk⟩
  · omega
  refine ⟨g, cap, hv, hb, hmc, ⟨(Array.getElem?_eq_some_iff.1 hh).1, fun i hi => ?_⟩, fun o => frozen_heap hh o⟩
  have e := flat_even xs i hi
  rw [flat_length] at hl
  rw [← htk] at e
  rw [cell_heap hh, cell_heap hh, Nat.zero_add]
  rw [List.getElem?_take_of_lt (by omega), List.getElem?_take_of_lt (by omega)] at e
  simpa using e

theorem flat_at0 {w : World} {b : Nat} {xs : List (Int × Int)} (h : BoxAt w b 0 xs) (j : Nat) (v : Value) (hv : (flat xs)[j]? = some v) : w.cell? ((⟨b, 0, none⟩ : Addr).add j) = some v := by
  have e : (⟨b, 0, none⟩ : Addr).add j = ⟨b, j, none⟩ := by unfold Addr.add; split <;> simp_all
  have hl : j < (flat xs).length := (List.getElem?_eq_some_iff.1 hv).1
  rw [flat_length] at hl
  have hk : j / 2 < xs.length := by omega
  have f := flat_even _ (j / 2) hk
  have hx := h.2 (j / 2) hk
  rw [Nat.zero_add] at hx
  rw [e]
  rcases Nat.mod_two_eq_zero_or_one j with m | m
  · rw [show j / 2 * 2 = j by omega] at f hx
    rw [hx.1, ← f.1, hv]
  · rw [show j / 2 * 2 + 1 = j by omega] at f hx
    rw [hx.2, ← f.2, hv]

theorem own_empty (w : World) (N : Nat) (hN : w.heap.size = N) : (w.alloc (.cells #[] 214)).ownsRow N 214 2 (.slice (some ⟨N, 0, none⟩) 0 0) 0 [] := by
  subst hN
  exact ⟨rfl, .inr ⟨w.heap.size, 0, #[], rfl, Nat.le_refl _, heap_new _ _, Nat.le_refl _, by unfold maxLen; omega, rfl, rfl⟩⟩

theorem small_max {n : Nat} (h : n ≤ 4) : 0 + n ≤ maxLen := by unfold maxLen; omega

/-- What an append onto an empty row of one's own leaves. -/
theorem grown_box {w w' : World} {v' : Value} {xs : List (Int × Int)} {N : Nat} (hN : w.heap.size = N) (hl : 0 < xs.length) (h : w'.ownsRow N 214 2 v' xs.length (flat xs)) (hg : (w.alloc (.cells #[] 214)).grownBy w' (Value.slice (some ⟨N, 0, none⟩) 0 0).ownBlock) :
    ∃ g cap, v' = .slice (some ⟨g, 0, none⟩) xs.length cap ∧ N ≤ g ∧ xs.length ≤ cap ∧ BoxAt w' g 0 xs ∧ (∀ o, w'.frozen? ⟨g, o, none⟩ = false) ∧ Below N w w' := by
  subst hN
  obtain ⟨g, cap, h1, h2, h3, h4, h5⟩ := owned_box h hl
  refine ⟨g, cap, h1, h2, h3, h4, h5, ?_⟩
  refine Below.grown ((Below.refl _ _).alloc (Nat.le_refl _) _) hg (by rw [size_new]; omega) ?_
  intro k hk
  simp only [Value.ownBlock] at hk
  injection hk with hk
  omega

theorem flat_atO {w : World} {b off : Nat} {xs : List (Int × Int)} (h : BoxAt w b off xs) (j : Nat) (v : Value) (hv : (flat xs)[j]? = some v) : w.cell? ((⟨b, off, none⟩ : Addr).add j) = some v := by
  have e : (⟨b, off, none⟩ : Addr).add j = ⟨b, off + j, none⟩ := by unfold Addr.add; split <;> simp_all
  have hl : j < (flat xs).length := (List.getElem?_eq_some_iff.1 hv).1
  rw [flat_length] at hl
  have hk : j / 2 < xs.length := by omega
  have f := flat_even _ (j / 2) hk
  have hx := h.2 (j / 2) hk
  rw [e]
  rcases Nat.mod_two_eq_zero_or_one j with m | m
  · rw [show j / 2 * 2 = j by omega] at f hx
    rw [hx.1, ← f.1, hv]
  · rw [show off + j / 2 * 2 + 1 = off + j by omega] at hx
    rw [show j / 2 * 2 + 1 = j by omega] at f
    rw [hx.2, ← f.2, hv]

theorem infoBoxO : (Try.prog.info? 214).map (fun i => (i.zero, i.size, i.bytes)) = some (some (.agg #[.int .i64 0, .int .i64 0]), 2, 16) := by kernel_rfl
end Go.Proofs.Ytfifiobcmdmefaa.Own

namespace Go.Proofs.Ytfifiobcmdmefaa.Own
open Go.RowKit
set_option linter.unusedVariables false

/-- v is a slice of the pairs xs, of element type t, its memory from B on its own. -/
def OwnP (t : TypeId) (w : World) (B : Nat) (v : Value) (xs : List P2) : Prop := w.ownsRow B t 2 v xs.length (flat xs)

theorem OwnP.open {t : TypeId} {w : World} {B : Nat} {v : Value} {xs : List P2} (h : OwnP t w B v xs) :
    ∃ a cap, v = .slice a xs.length cap ∧ Sl w a xs ∧ xs.length ≤ cap ∧ cap ≤ maxLen ∧ (∀ x, a = some x → v.ownBlock = some x.block ∧ x.off = 0 ∧ x.spot = none) := by
  obtain ⟨h1, h2⟩ := h
  rcases h2 with ⟨hv, h0⟩ | ⟨g, cap, cur, hv, hg, hh, hmc, hml, hsz, htk⟩
  · exact ⟨none, 0, by rw [hv, h0], .inl (List.eq_nil_of_length_eq_zero h0), by omega, by unfold maxLen; omega, fun x e => by cases e⟩
  · refine ⟨some ⟨g, 0, none⟩, cap, hv, .inr ⟨g, 0, rfl, (Array.getElem?_eq_some_iff.1 hh).1, fun i hi => ?_⟩, hmc, hml, fun x e => by injection e with e; subst e; rw [hv]; exact ⟨rfl, rfl, rfl⟩⟩
    have e := flat_even xs i hi
    rw [← htk] at e
    rw [cell_heap hh, cell_heap hh, Nat.zero_add]
    rw [List.getElem?_take_of_lt (by omega), List.getElem?_take_of_lt (by omega)] at e
    simpa using e
theorem OwnP.keep {t : TypeId} {w w' : World} {B : Nat} {v : Value} {xs : List P2} {row : Option Nat} (h : OwnP t w B v xs) (hg : w.grownBy w' row) (hne : v.ownBlock = none ∨ v.ownBlock ≠ row) : OwnP t w' B v xs := World.ownsRow.kept h hg hne
theorem OwnP.below {t : TypeId} {w w' : World} {B : Nat} {v : Value} {xs : List P2} (h : OwnP t w B v xs) (hb : Below w.heap.size w w') : OwnP t w' B v xs := by
  obtain ⟨h1, h2⟩ := h
  refine ⟨h1, ?_⟩
  rcases h2 with h2 | ⟨g, cap, cur, hv, hg, hh, r⟩
  · exact .inl h2
  · exact .inr ⟨g, cap, cur, hv, hg, by rw [hb.block g (Array.getElem?_eq_some_iff.1 hh).1]; exact hh, r⟩
theorem OwnP.lower {t : TypeId} {w : World} {B B' : Nat} {v : Value} {xs : List P2} (h : OwnP t w B v xs) (hB : B' ≤ B) : OwnP t w B' v xs := by
  obtain ⟨h1, h2⟩ := h
  refine ⟨h1, ?_⟩
  rcases h2 with h2 | ⟨g, cap, cur, hv, hg, r⟩
  · exact .inl h2
  · exact .inr ⟨g, cap, cur, hv, Nat.le_trans hB hg, r⟩
theorem OwnP.nil (t : TypeId) (w : World) (B : Nat) : OwnP t w B (.slice none 0 0) [] := World.ownsRow_nil _ _ _ _
theorem flat_snocP (xs : List P2) (p : P2) : flat (xs ++ [p]) = flat xs ++ [.int .i64 p.1, .int .i64 p.2] := by simp [flat]

theorem flat_extP {xs : List P2} {l : List Value} (hl : l.length = xs.length * 2) (h : ∀ i, i < xs.length → l[i * 2]? = some (.int .i64 (xs.getD i (0, 0)).1) ∧ l[i * 2 + 1]? = some (.int .i64 (xs.getD i (0, 0)).2)) : l = flat xs := by
  apply List.ext_getElem?
  intro j
  by_cases hj : j < xs.length * 2
  · have hk : j / 2 < xs.length := by omega
    have e1 := h (j / 2) hk
    have e2 := flat_even xs (j / 2) hk
    rcases Nat.mod_two_eq_zero_or_one j with m | m
    · rw [show j = j / 2 * 2 by omega, e1.1, e2.1]
    · rw [show j = j / 2 * 2 + 1 by omega, e1.2, e2.2]
  · rw [List.getElem?_eq_none (by omega), List.getElem?_eq_none (by rw [flat_length]; omega)]

theorem getD_setP (xs : List P2) (i j : Nat) (v : P2) (hi : i < xs.length) : (xs.set i v).getD j (0, 0) = if i = j then v else xs.getD j (0, 0) := by
  simp only [List.getD_eq_getElem?_getD, List.getElem?_set]
  by_cases e : i = j
  · simp [e, show j < xs.length by omega]
  · simp [e]

/-- The second number of a pair of such a slice, turned. -/
theorem OwnP.set {t : TypeId} {w : World} {B g cap : Nat} {xs : List P2} (h : OwnP t w B (.slice (some ⟨g, 0, none⟩) xs.length cap) xs) (i : Nat) (hi : i < xs.length) (n : Int) :
    OwnP t (w.setCell ⟨g, i * 2 + 1, none⟩ (.int .i64 n)) B (.slice (some ⟨g, 0, none⟩) xs.length cap) (xs.set i ((xs.getD i (0, 0)).1, n)) := by
  obtain ⟨h1, h2⟩ := h
  rcases h2 with ⟨hv, h0⟩ | ⟨g', cap', cur, hv, hg, hh, hmc, hml, hsz, htk⟩
  · omega
  injection hv with e1 e2 e3
  injection e1 with e1
  injection e1 with e1
  subst e1 e3
  have hl2 := flat_length xs
  refine ⟨by rw [flat_length], .inr ⟨g, cap, cur.setIfInBounds (i * 2 + 1) (.int .i64 n), by rw [List.length_set], hg, ?_, by rw [List.length_set]; exact hmc, hml, by simpa using hsz, ?_⟩⟩
  · simp [World.setCell, Array.getElem?_modify, hh]
  · rw [List.length_set]
    have hcl : xs.length * 2 ≤ cur.size := by rw [hsz]; omega
    apply flat_extP
    · rw [List.length_set, List.length_take]
      simp
      omega
    · intro j hj
      rw [List.length_set] at hj
      have e := flat_even xs j hj
      rw [← htk, List.getElem?_take_of_lt (by omega), List.getElem?_take_of_lt (by omega)] at e
      rw [List.getElem?_take_of_lt (by omega), List.getElem?_take_of_lt (by omega), getD_setP _ _ _ _ hi]
      by_cases hij : i = j
      · subst hij
        rw [if_pos rfl]
        refine ⟨?_, ?_⟩
        · have := e.1
          simp only [Array.getElem?_toList] at this ⊢
          rw [Array.getElem?_setIfInBounds_ne (by omega)]; exact this
        · simp only [Array.getElem?_toList]
          rw [Array.getElem?_setIfInBounds_self_of_lt (by omega)]
      · rw [if_neg hij]
        refine ⟨?_, ?_⟩
        · have := e.1
          simp only [Array.getElem?_toList] at this ⊢
          rw [Array.getElem?_setIfInBounds_ne (by omega)]; exact this
        · have := e.2
          simp only [Array.getElem?_toList] at this ⊢
          rw [Array.getElem?_setIfInBounds_ne (by omega)]; exact this
end Go.Proofs.Ytfifiobcmdmefaa.Own

namespace Go.Proofs.Ytfifiobcmdmefaa.Own
open Go.RowKit

/-- Of the blocks that were there none but rb has turned. -/
structure Bar (rb : Nat) (w w' : World) : Prop where
  os : w'.os = w.os
  tape : w'.tape = w.tape
  output : w'.output = w.output
  size : w.heap.size ≤ w'.heap.size
  block : ∀ k, k < w.heap.size → k ≠ rb → w'.heap[k]? = w.heap[k]?

theorem Bar.refl (rb : Nat) (w : World) : Bar rb w w := ⟨rfl, rfl, rfl, Nat.le_refl _, fun _ _ _ => rfl⟩
theorem Bar.trans {rb : Nat} {a b c : World} (h : Bar rb a b) (k : Bar rb b c) : Bar rb a c :=
  ⟨k.os.trans h.os, k.tape.trans h.tape, k.output.trans h.output, Nat.le_trans h.size k.size, fun i hi hn => (k.block i (Nat.lt_of_lt_of_le hi h.size) hn).trans (h.block i hi hn)⟩
theorem Bar.ofBelow {rb : Nat} {w w' : World} (h : Below w.heap.size w w') : Bar rb w w' := ⟨h.os, h.tape, h.output, h.size, fun k hk _ => h.block k hk⟩
theorem Bar.ofOnly {rb : Nat} {w w' : World} (h : Only rb w w') : Bar rb w w' := ⟨h.os, h.tape, h.output, Nat.le_of_eq h.size.symm, fun k _ hn => h.block k hn⟩
theorem Bar.setCell {rb : Nat} {a w : World} (h : Bar rb a w) {p : Addr} (hp : a.heap.size ≤ p.block) (v : Value) : Bar rb a (w.setCell p v) :=
  ⟨h.os, h.tape, h.output, by simpa [World.setCell] using h.size, fun k hk hn => by rw [Below.heap_setCell _ _ _ _ (by omega)]; exact h.block k hk hn⟩
theorem Bar.alloc {rb : Nat} {a w : World} (h : Bar rb a w) (o : Obj) : Bar rb a (w.alloc o) :=
  h.trans (Bar.ofBelow ((Below.refl _ _).alloc (Nat.le_refl _) _))
theorem Bar.below {rb B : Nat} {w w' : World} (h : Bar rb w w') (hB : B ≤ rb) (hB2 : B ≤ w.heap.size) : Below B w w' := ⟨h.os, h.tape, h.output, h.size, fun k hk => h.block k (by omega) (by omega)⟩
end Go.Proofs.Ytfifiobcmdmefaa.Own

namespace Go.Proofs.Ytfifiobcmdmefaa.Own
open Go.RowKit
set_option linter.unusedVariables false

theorem grR (w : World) (row : Option Nat) : w.grownBy w row := ⟨rfl, rfl, rfl, Nat.le_refl _, fun _ _ _ => rfl⟩
theorem grSet {a b : World} {k o : Nat} (h : a.grownBy b (some k)) (v : Value) : a.grownBy (b.setCell ⟨k, o, none⟩ v) (some k) :=
  ⟨h.os, h.tape, h.output, by simpa [World.setCell] using h.size, fun i hi hn => by rw [Below.heap_setCell _ _ _ _ (fun e => hn (by rw [e]))]; exact h.block i hi hn⟩
theorem grSetN {a b : World} {row : Option Nat} {p : Addr} (h : a.grownBy b row) (hp : a.heap.size ≤ p.block) (v : Value) : a.grownBy (b.setCell p v) row :=
  ⟨h.os, h.tape, h.output, by simpa [World.setCell] using h.size, fun i hi hn => by rw [Below.heap_setCell _ _ _ _ (by omega)]; exact h.block i hi hn⟩
theorem grAlloc {a b : World} {row : Option Nat} (h : a.grownBy b row) (o : Obj) : a.grownBy (b.alloc o) row := h.trans ((World.grownBy_alloc b o row))
theorem grDrew {a b : World} {row : Option Nat} (h : a.grownBy b row) : a.grownBy b.drew row := h.trans ⟨rfl, rfl, rfl, Nat.le_refl _, fun _ _ _ => rfl⟩
theorem grDrewN {a b : World} {row : Option Nat} (h : a.grownBy b row) (n : Nat) : a.grownBy (b.drewN n) row := h.trans ⟨rfl, rfl, rfl, Nat.le_refl _, fun _ _ _ => rfl⟩
theorem grBelow {w w' : World} {row : Option Nat} (h : Below w.heap.size w w') : w.grownBy w' row := ⟨h.os, h.tape, h.output, h.size, fun k hk _ => h.block k hk⟩
theorem grBut {a b : World} (h : a.grownBy b none) (row : Option Nat) : a.grownBy b row := ⟨h.os, h.tape, h.output, h.size, fun i hi _ => h.block i hi (by simp)⟩
/-- A block that was not there may turn. -/
theorem grNew {a b c : World} {row : Option Nat} {k : Nat} (h : a.grownBy b row) (g : b.grownBy c (some k)) (hk : a.heap.size ≤ k) : a.grownBy c row :=
  ⟨g.os.trans h.os, g.tape.trans h.tape, g.output.trans h.output, Nat.le_trans h.size g.size, fun i hi hn => (g.block i (Nat.lt_of_lt_of_le hi h.size) (by simp; omega)).trans (h.block i hi hn)⟩
theorem Sl.grown {w w' : World} {row : Option Nat} {a : Option Addr} {xs : List (Int × Int)} (h : Sl w a xs) (hg : w.grownBy w' row) (hb : ∀ x, a = some x → row ≠ some x.block) : Sl w' a xs := by
  rcases h with h | ⟨b, off, rfl, h⟩
  · exact .inl h
  · have e : ∀ o, w'.cell? ⟨b, o, none⟩ = w.cell? ⟨b, o, none⟩ := fun o => World.cell?_of_block (w := w) (a := ⟨b, o, none⟩) (hg.block b h.1 (fun e => hb _ rfl e.symm))
    exact .inr ⟨b, off, rfl, Nat.lt_of_lt_of_le h.1 hg.size, fun i hi => by rw [e, e]; exact h.2 i hi⟩
end Go.Proofs.Ytfifiobcmdmefaa.Own

namespace Go.Proofs.Ytfifiobcmdmefaa.Own
open Go.RowKit
set_option linter.unusedVariables false
set_option linter.unusedSimpArgs false

/-- What looking leaves. -/
def LookPost (bs xs ys : List P2) (j : Nat) (B : Nat) (rv pv : Value) (v k : Int) (w : World) (e : Ending) (w' : World) : Prop :=
  ∃ rv', e = .returned (.tuple #[.int .i64 (inBox bs ys j), .agg #[rv', pv, .int .i64 v, .int .i64 k]]) ∧ OwnP 140 w' B rv' (lookR bs xs ys j) ∧ OwnP 143 w' B pv ys ∧
    (rv'.ownBlock = none ∨ rv'.ownBlock ≠ pv.ownBlock) ∧ w.grownBy w' rv.ownBlock ∧ (∀ g, rv'.ownBlock = some g → rv.ownBlock = some g ∨ w.heap.size ≤ g)


set_option maxRecDepth 100000 in
set_option maxHeartbeats 4000000 in
theorem l3Look (la : Option Addr) (lc : Nat) (bs : List P2) (j : Nat) (rv pv : Value) (xs ys : List P2) (v k : Int) (B : Nat) (w : World)
    (hb : Sl w la bs) (hj : j < bs.length) (l0 : bs.length ≤ 2 ^ 40) (hla : ∀ x, la = some x → rv.ownBlock ≠ some x.block)
    (hr : OwnP 140 w B rv xs) (hp : OwnP 143 w B pv ys) (hd : rv.ownBlock = none ∨ rv.ownBlock ≠ pv.ownBlock) (hB : B ≤ w.heap.size) (lx : xs.length ≤ 1000) (ly : ys.length ≤ 1000) :
    Calls Try.prog 159 #[.slice la bs.length lc, .agg #[rv, pv, .int .i64 v, .int .i64 k], .int .i64 j] w fun e w' => LookPost bs xs ys j B rv pv v k w e w' := by
  obtain ⟨ar, cr, hrv, slr, hcr, hmr, hbr⟩ := hr.open
  obtain ⟨ap, cp, hpv, slp, hcp, hmp, hbp⟩ := hp.open
  have HR : Hid (OwnP 140 w B rv xs) := hr
  have HP : Hid (OwnP 143 w B pv ys) := hp
  have HD : Hid (rv.ownBlock = none ∨ rv.ownBlock ≠ pv.ownBlock) := hd
  have HLA : Hid (∀ x, la = some x → rv.ownBlock ≠ some x.block) := hla
  have HRV : Hid (rv = .slice ar xs.length cr) := hrv
  have HPV : Hid (pv = .slice ap ys.length cp) := hpv
  have SR : Hid (Sl w ar xs) := slr
  have SP : Hid (Sl w ap ys) := slp
  have SB : Hid (Sl w la bs) := hb
  clear hr hp hd hla slr slp hb hbr hbp hcr hcp hmr hmp
  obtain ⟨W, hW⟩ : ∃ W, W = (w.alloc (.cells #[.slice ar xs.length cr, .slice ap ys.length cp, .int .i64 v, .int .i64 k] 31)).alloc (.cells #[.slice none 0 0, .slice none 0 0, .int .i64 0, .int .i64 0] 31) := ⟨_, rfl⟩
  have BW : Hid (Below w.heap.size w W) := by show Below _ _ _; rw [hW]; exact ((Below.refl _ _).alloc (Nat.le_refl _) _).alloc (by simp) _
  have HSW : Hid (W.heap.size = w.heap.size + 2) := by show _ = _; rw [hW]; simp
  have hNW : w.heap.size + 1 < W.heap.size := by have := HSW.out; omega
  have hBW : B ≤ W.heap.size := by omega
  have g0 : Hid (W.heap[w.heap.size]? = some (.cells #[.slice ar xs.length cr, .slice ap ys.length cp, .int .i64 v, .int .i64 k] 31 (0, 0))) := by show _ = _; rw [hW]; exact heap_new1 _ _ _
  have g1 : Hid (W.heap[w.heap.size + 1]? = some (.cells #[.slice none 0 0, .slice none 0 0, .int .i64 0, .int .i64 0] 31 (0, 0))) := by show _ = _; rw [hW]; exact heap_new2 _ _ _
  have HW : Hid (W = _) := hW
  clear hW
  have q0 : W.cell? ⟨w.heap.size, 0, none⟩ = some (.slice ar xs.length cr) := by rw [cell_heap g0.out]; rfl
  have q1 : W.cell? ⟨w.heap.size, 1, none⟩ = some (.slice ap ys.length cp) := by rw [cell_heap g0.out]; rfl
  have q2 : W.cell? ⟨w.heap.size, 2, none⟩ = some (.int .i64 v) := by rw [cell_heap g0.out]; rfl
  have q3 : W.cell? ⟨w.heap.size, 3, none⟩ = some (.int .i64 k) := by rw [cell_heap g0.out]; rfl
  have z0 : W.cell? ⟨w.heap.size + 1, 0, none⟩ = some (.slice none 0 0) := by rw [cell_heap g1.out]; rfl
  have z1 : W.cell? ⟨w.heap.size + 1, 1, none⟩ = some (.slice none 0 0) := by rw [cell_heap g1.out]; rfl
  have z2 : W.cell? ⟨w.heap.size + 1, 2, none⟩ = some (.int .i64 0) := by rw [cell_heap g1.out]; rfl
  have z3 : W.cell? ⟨w.heap.size + 1, 3, none⟩ = some (.int .i64 0) := by rw [cell_heap g1.out]; rfl
  have fz : ∀ o, W.frozen? ⟨w.heap.size + 1, o, none⟩ = false := fun o => frozen_heap g1.out o
  have lR : Hid (∀ g, rv.ownBlock = some g → g < w.heap.size) := fun g hg => (World.ownsRow.lt HR.out g hg).2
  have lP : Hid (∀ g, pv.ownBlock = some g → g < w.heap.size) := fun g hg => (World.ownsRow.lt HP.out g hg).2
  -- where nothing but its own cells has turned
  have FIN : Hid (∀ W', W.grownBy W' (some (w.heap.size + 1)) → lookR bs xs ys j = xs → OwnP 140 W' B rv (lookR bs xs ys j) ∧ OwnP 143 W' B pv ys ∧ (rv.ownBlock = none ∨ rv.ownBlock ≠ pv.ownBlock) ∧ w.grownBy W' rv.ownBlock ∧ (∀ g, rv.ownBlock = some g → rv.ownBlock = some g ∨ w.heap.size ≤ g)) := fun W' hg hl => by
    have e : w.grownBy W' none := grNew (grBelow BW.out) hg (by omega)
    rw [hl]
    exact ⟨HR.out.keep e (by cases h : rv.ownBlock <;> simp), HP.out.keep e (by cases h : pv.ownBlock <;> simp), HD.out, grBut e _, fun g e => .inl e⟩
  rw [HRV.out, HPV.out]
  go_enter Try.func159, Try.ntmps159
  go_wp2_with fail
  rw [← HW.out]
  refine (l3At ap cp ys.length ys j W (SP.out.below BW.out) rfl (by omega)).mono ?_
  rintro e w1 ⟨rfl, hw⟩
  rw [hw]
  clear hw
  cases hy : hasBox ys j with
  | true =>
    obtain ⟨pe, pl⟩ := place_idx ys j hy
    rw [pe]
    have EI : Hid (inBox bs ys j = (ys.getD (idxBox ys j) (0, 0)).2) := by show _ = _; simp [inBox, hy]
    have EL : Hid (lookR bs xs ys j = xs) := by show _ = _; simp [lookR, hy]
    generalize idxBox ys j = m at pl EI
    clear pe hy
    rcases (SP.out.below BW.out) with h0 | ⟨b, off, rfl, hat⟩
    · rw [h0] at pl; simp at pl
    have cy := (hat.2 m pl).2
    rw [← EI.out] at cy
    clear hat
    have dm : decide ((0 : Int) ≤ (m : Int)) = true := by simp
    have hml : (m : Int) < ((ys.length : Nat) : Int) := by omega
    go_wp2
    go_region
    all_goals
      go_wp2
      refine bodyPost_ret (v := .tuple #[.int .i64 (inBox bs ys j), .agg #[.slice ar xs.length cr, .slice (some ⟨b, off, none⟩) ys.length cp, .int .i64 v, .int .i64 k]]) (by simp [results, Try.results159, go_sem, z0, z1, z2, z3]) rfl ⟨rv, by rw [HRV.out], ?_⟩
      rw [← HRV.out, ← HPV.out]
      refine FIN.out _ ?_ EL.out
      repeat (first | exact grR _ _ | apply grSet | apply grDrew | apply grDrewN)
  | false =>
    rw [place_no ys j hy]
    have EI : Hid (inBox bs ys j = (bs.getD j (0, 0)).2) := by show _ = _; simp [inBox, hy]
    have YN : Hid (hasBox ys j = false) := hy
    clear hy
    rcases SB.out with h0 | ⟨b, off, rfl, hat0⟩
    · rw [h0] at hj; simp at hj
    have hat := hat0.below BW.out
    have hbw : b < w.heap.size := hat0.1
    clear hat0
    have cv := (hat.2 j hj).1
    have cl := (hat.2 j hj).2
    have hbW : b < W.heap.size := hat.1
    rw [← EI.out] at cl
    obtain ⟨ver, hver⟩ : ∃ z, z = (bs.getD j (0, 0)).1 := ⟨_, rfl⟩
    rw [← hver] at cv
    have HV : Hid (ver = (bs.getD j (0, 0)).1) := hver
    clear hat hver
    have hjl : (j : Int) < ((bs.length : Nat) : Int) := by omega
    go_wp2_with fail
    refine (l3Saw ar cr xs.length xs j W (SR.out.below BW.out) rfl (by omega)).mono ?_
    rintro e w1 ⟨rfl, hw⟩
    rw [hw]
    clear hw
    cases hx : (xs.any fun p => p.1 == (j : Int)) with
    | true =>
      have EL : Hid (lookR bs xs ys j = xs) := by show _ = _; unfold lookR; rw [YN.out]; simp [show hasBox xs j = true from hx]
      clear hx
      go_wp2
      go_region
      all_goals
        go_wp2
        refine bodyPost_ret (v := .tuple #[.int .i64 (inBox bs ys j), .agg #[.slice ar xs.length cr, .slice ap ys.length cp, .int .i64 v, .int .i64 k]]) (by simp [results, Try.results159, go_sem, z0, z1, z2, z3]) rfl ⟨rv, by rw [HRV.out], ?_⟩
        rw [← HRV.out, ← HPV.out]
        refine FIN.out _ ?_ EL.out
        repeat (first | exact grR _ _ | apply grSet | apply grDrew | apply grDrewN)
    | false =>
      have EL : Hid (lookR bs xs ys j = xs ++ [((j : Int), ver)]) := by show _ = _; unfold lookR; rw [YN.out, HV.out]; simp [show hasBox xs j = false from hx]
      clear hx
      obtain ⟨i0, hi0, hz0, hz1, hz2⟩ := info_parts infoRead
      have HRW : Hid (W.ownsRow B 140 2 (.slice ar xs.length cr) xs.length (flat xs)) := by
        show W.ownsRow _ _ _ _ _ _
        rw [← HRV.out]; exact HR.out.below BW.out
      have OB : Hid (rv.ownBlock = (Value.slice ar xs.length cr).ownBlock) := by show _ = _; rw [HRV.out]
      have hN : Hid (xs.length + 1 ≤ maxLen) := by show _ ≤ _; unfold maxLen; omega
      have hBy : Hid ((xs.length + 1) * 16 ≤ 140737488355328) := by show _ ≤ _; omega
      have nN : Hid ((Value.slice ar xs.length cr).ownBlock ≠ some w.heap.size ∧ (Value.slice ar xs.length cr).ownBlock ≠ some (w.heap.size + 1) ∧ (Value.slice ar xs.length cr).ownBlock ≠ some b) := by
        show _ ∧ _
        rw [← OB.out]
        exact ⟨fun e => by have := lR.out _ e; omega, fun e => by have := lR.out _ e; omega, HLA.out _ rfl⟩
      have AFT : Hid (∀ w1 : World, W.grownBy w1 (Value.slice ar xs.length cr).ownBlock → w1.heap[w.heap.size]? = some (.cells #[.slice ar xs.length cr, .slice ap ys.length cp, .int .i64 v, .int .i64 k] 31 (0, 0)) ∧ w1.heap[w.heap.size + 1]? = some (.cells #[.slice none 0 0, .slice none 0 0, .int .i64 0, .int .i64 0] 31 (0, 0)) ∧ w1.cell? ⟨b, off + j * 2, none⟩ = some (.int .i64 ver) ∧ w1.cell? ⟨b, off + j * 2 + 1, none⟩ = some (.int .i64 (inBox bs ys j))) := fun w1 hg => by
        refine ⟨?_, ?_, ?_, ?_⟩
        · rw [hg.block _ (by omega) (Ne.symm nN.out.1)]; exact g0.out
        · rw [hg.block _ (by omega) (Ne.symm nN.out.2.1)]; exact g1.out
        · rw [hg.cell_far ⟨b, off + j * 2, none⟩ hbW (Ne.symm nN.out.2.2)]; exact cv
        · rw [hg.cell_far ⟨b, off + j * 2 + 1, none⟩ hbW (Ne.symm nN.out.2.2)]; exact cl
      have FIN2 : Hid (∀ (w1 : World) (gg cap : Nat), W.grownBy w1 (Value.slice ar xs.length cr).ownBlock → w1.ownsRow B 140 2 (.slice (some ⟨gg, 0, none⟩) (xs.length + 1) cap) (xs.length + 1) (flat xs ++ [.int .i64 j, .int .i64 ver]) → ((Value.slice ar xs.length cr).ownBlock = some gg ∨ gg = W.heap.size + 1) → ∀ W', (w1.setCell ⟨w.heap.size, 0, none⟩ (.slice (some ⟨gg, 0, none⟩) (xs.length + 1) cap)).grownBy W' (some (w.heap.size + 1)) → OwnP 140 W' B (.slice (some ⟨gg, 0, none⟩) (xs.length + 1) cap) (lookR bs xs ys j) ∧ OwnP 143 W' B pv ys ∧ ((Value.slice (some ⟨gg, 0, none⟩) (xs.length + 1) cap).ownBlock = none ∨ (Value.slice (some ⟨gg, 0, none⟩) (xs.length + 1) cap).ownBlock ≠ pv.ownBlock) ∧ w.grownBy W' rv.ownBlock ∧ (∀ g, (Value.slice (some ⟨gg, 0, none⟩) (xs.length + 1) cap).ownBlock = some g → rv.ownBlock = some g ∨ w.heap.size ≤ g)) := by
        intro w1 gg cap hg ho hat W' hk
        have s1 : w1.grownBy (w1.setCell ⟨w.heap.size, 0, none⟩ (.slice (some ⟨gg, 0, none⟩) (xs.length + 1) cap)) (some w.heap.size) := grSet (grR _ _) _
        have hgg : gg ≠ w.heap.size ∧ gg ≠ w.heap.size + 1 ∧ (∀ q, pv.ownBlock = some q → gg ≠ q) := by
          rcases hat with h | h
          · rw [← OB.out] at h
            have := lR.out _ h
            refine ⟨by omega, by omega, fun q hq e => ?_⟩
            rcases HD.out with h' | h'
            · rw [h] at h'; cases h'
            · exact h' (by rw [h, hq, e])
          · refine ⟨by omega, by omega, fun q hq e => ?_⟩
            have := lP.out _ hq
            omega
        refine ⟨?_, ?_, ?_, ?_, ?_⟩
        · have o : OwnP 140 w1 B (.slice (some ⟨gg, 0, none⟩) (xs.length + 1) cap) (xs ++ [((j : Int), ver)]) := by
            unfold OwnP
            rw [List.length_append, flat_snocP]
            exact ho
          rw [EL.out]
          refine (o.keep s1 (.inr ?_)).keep hk (.inr ?_)
          · intro e; injection e with e; exact hgg.1 e
          · intro e; injection e with e; exact hgg.2.1 e
        · refine (((HP.out.below BW.out).keep hg ?_).keep s1 ?_).keep hk ?_
          · rw [← OB.out]
            rcases HD.out with h' | h'
            · rw [h']; cases pv.ownBlock <;> simp
            · exact .inr (Ne.symm h')
          · cases h : pv.ownBlock with
            | none => exact .inl rfl
            | some q => refine .inr fun e => ?_; injection e with e; have := lP.out _ h; omega
          · cases h : pv.ownBlock with
            | none => exact .inl rfl
            | some q => refine .inr fun e => ?_; injection e with e; have := lP.out _ h; omega
        · refine .inr fun e => ?_
          exact hgg.2.2 gg e.symm rfl
        · rw [OB.out]
          exact grNew (grNew ((grBelow BW.out).trans hg) s1 (Nat.le_refl _)) hk (by omega)
        · intro g e
          have e' : gg = g := Option.some.inj e
          subst e'
          rcases hat with h | h
          · exact .inl (by rw [OB.out]; exact h)
          · exact .inr (by omega)
      have qa : (W.alloc (.cells #[.int .i64 j, .int .i64 ver] 140)).cell? ⟨w.heap.size, 0, none⟩ = some (.slice ar xs.length cr) := (World.cell?_of_block (w := W) (a := ⟨w.heap.size, 0, none⟩) (heap_old _ _ _ (by show w.heap.size < _; omega))).trans q0
      go_wp2_with fail
      go_region_law ((refine step_append_lies _ (by rfl) _ _ _ (by rfl) B 140 i0 _ 2 16 Try.underlying28 hi0 hz0 hz1 hz2 rfl (by omega) (.slice ar xs.length cr) xs.length (flat xs) (by rfl) ((HRW.out.alloc _).drew) ⟨W.heap.size, 0, none⟩ 1 1 [.int .i64 j, .int .i64 ver] (by rfl) (by rfl) (World.news_of_block (cs := #[.int .i64 j, .int .i64 ver]) (t := 140) (fr := (0, 0)) (heap_alloc_new W _)) (by simp [Value.oneCell']) (by omega) hN.out hBy.out (by simp; omega) (W.heap.size + 1) (by simp) ?_; intro gg cap w1 hown1 hgrow hat hlt; have GW : W.grownBy w1 (Value.slice ar xs.length cr).ownBlock := World.grownBy.trans (grDrew (grAlloc (grR W _) _)) hgrow; have f0 : w1.frozen? ⟨w.heap.size, 0, none⟩ = false := frozen_heap (AFT.out w1 GW).1 0; have c0 : w1.cell? ⟨w.heap.size, 0, none⟩ = some (.slice ar xs.length cr) := (cell_heap (AFT.out w1 GW).1 0).trans rfl))
      all_goals
        obtain ⟨G0, G1, cv1, cl1⟩ := AFT.out w1 GW
        have c1 : w1.cell? ⟨w.heap.size, 1, none⟩ = some (.slice ap ys.length cp) := (cell_heap G0 1).trans rfl
        have c2 : w1.cell? ⟨w.heap.size, 2, none⟩ = some (.int .i64 v) := (cell_heap G0 2).trans rfl
        have c3 : w1.cell? ⟨w.heap.size, 3, none⟩ = some (.int .i64 k) := (cell_heap G0 3).trans rfl
        have y0 : w1.cell? ⟨w.heap.size + 1, 0, none⟩ = some (.slice none 0 0) := (cell_heap G1 0).trans rfl
        have y1 : w1.cell? ⟨w.heap.size + 1, 1, none⟩ = some (.slice none 0 0) := (cell_heap G1 1).trans rfl
        have y2 : w1.cell? ⟨w.heap.size + 1, 2, none⟩ = some (.int .i64 0) := (cell_heap G1 2).trans rfl
        have y3 : w1.cell? ⟨w.heap.size + 1, 3, none⟩ = some (.int .i64 0) := (cell_heap G1 3).trans rfl
        have fy : ∀ o, w1.frozen? ⟨w.heap.size + 1, o, none⟩ = false := fun o => frozen_heap G1 o
        have F2 := FIN2.out w1 gg cap GW hown1 hat
        have F3 : Hid _ := F2
        have bn : ¬ b = w.heap.size := by omega
        have bn' : ¬ w.heap.size = b := by omega
        clear G0 G1 hown1 hgrow hat hlt F2
        go_wp2
        go_region
        all_goals
          go_wp2
          refine bodyPost_ret (v := .tuple #[.int .i64 (inBox bs ys j), .agg #[.slice (some ⟨gg, 0, none⟩) (xs.length + 1) cap, .slice ap ys.length cp, .int .i64 v, .int .i64 k]]) (by simp [results, Try.results159, go_sem, y0, y1, y2, y3]) rfl ⟨_, rfl, ?_⟩
          rw [← HRV.out, ← HPV.out]
          refine F3.out _ ?_
          repeat (first | exact grR _ _ | apply grSet | apply grDrew | apply grDrewN)
end Go.Proofs.Ytfifiobcmdmefaa.Own

namespace Go.Proofs.Ytfifiobcmdmefaa.Own
open Go.RowKit
set_option linter.unusedVariables false
set_option linter.unusedSimpArgs false

theorem OwnP.frozen {t : TypeId} {w : World} {B g n cap : Nat} {xs : List P2} (h : w.ownsRow B t 2 (.slice (some ⟨g, 0, none⟩) n cap) n (flat xs)) (o : Nat) : w.frozen? ⟨g, o, none⟩ = false := by
  obtain ⟨h1, h2⟩ := h
  rcases h2 with ⟨hv, h0⟩ | ⟨g', cap', cur, hv, hg, hh, r⟩
  · cases hv
  · injection hv with e1 e2 e3
    injection e1 with e1
    injection e1 with e1
    subst e1
    exact frozen_heap hh o

/-- What putting leaves. -/
def PutPost (xs ys : List P2) (j : Nat) (n : Int) (B : Nat) (rv pv : Value) (v k : Int) (w : World) (e : Ending) (w' : World) : Prop :=
  ∃ pv', e = .returned (.agg #[rv, pv', .int .i64 v, .int .i64 k]) ∧ OwnP 140 w' B rv xs ∧ OwnP 143 w' B pv' (putP ys j n) ∧
    (rv.ownBlock = none ∨ rv.ownBlock ≠ pv'.ownBlock) ∧ w.grownBy w' pv.ownBlock ∧ (∀ g, pv'.ownBlock = some g → pv.ownBlock = some g ∨ w.heap.size ≤ g)


set_option maxRecDepth 100000 in
set_option maxHeartbeats 4000000 in
theorem l3Put (j : Nat) (n : Int) (rv pv : Value) (xs ys : List P2) (v k : Int) (B : Nat) (w : World)
    (hr : OwnP 140 w B rv xs) (hp : OwnP 143 w B pv ys) (hd : rv.ownBlock = none ∨ rv.ownBlock ≠ pv.ownBlock) (hB : B ≤ w.heap.size) (ly : ys.length ≤ 1000) :
    Calls Try.prog 160 #[.agg #[rv, pv, .int .i64 v, .int .i64 k], .int .i64 j, .int .i64 n] w fun e w' => PutPost xs ys j n B rv pv v k w e w' := by
  obtain ⟨ar, cr, hrv, slr, hcr, hmr, hbr⟩ := hr.open
  obtain ⟨ap, cp, hpv, slp, hcp, hmp, hbp⟩ := hp.open
  have HR : Hid (OwnP 140 w B rv xs) := hr
  have HP : Hid (OwnP 143 w B pv ys) := hp
  have HD : Hid (rv.ownBlock = none ∨ rv.ownBlock ≠ pv.ownBlock) := hd
  have HRV : Hid (rv = .slice ar xs.length cr) := hrv
  have HPV : Hid (pv = .slice ap ys.length cp) := hpv
  have SP : Hid (Sl w ap ys) := slp
  have HBP : Hid (∀ x, ap = some x → pv.ownBlock = some x.block ∧ x.off = 0 ∧ x.spot = none) := hbp
  clear hr hp hd slr slp hbr hbp hcr hcp hmr hmp
  obtain ⟨W, hW⟩ : ∃ W, W = (w.alloc (.cells #[.slice ar xs.length cr, .slice ap ys.length cp, .int .i64 v, .int .i64 k] 31)).alloc (.cells #[.slice none 0 0, .slice none 0 0, .int .i64 0, .int .i64 0] 31) := ⟨_, rfl⟩
  have BW : Hid (Below w.heap.size w W) := by show Below _ _ _; rw [hW]; exact ((Below.refl _ _).alloc (Nat.le_refl _) _).alloc (by simp) _
  have HSW : Hid (W.heap.size = w.heap.size + 2) := by show _ = _; rw [hW]; simp
  have hNW : w.heap.size + 1 < W.heap.size := by have := HSW.out; omega
  have hBW : B ≤ W.heap.size := by omega
  have g0 : Hid (W.heap[w.heap.size]? = some (.cells #[.slice ar xs.length cr, .slice ap ys.length cp, .int .i64 v, .int .i64 k] 31 (0, 0))) := by show _ = _; rw [hW]; exact heap_new1 _ _ _
  have g1 : Hid (W.heap[w.heap.size + 1]? = some (.cells #[.slice none 0 0, .slice none 0 0, .int .i64 0, .int .i64 0] 31 (0, 0))) := by show _ = _; rw [hW]; exact heap_new2 _ _ _
  have HW : Hid (W = _) := hW
  clear hW
  have q0 : W.cell? ⟨w.heap.size, 0, none⟩ = some (.slice ar xs.length cr) := by rw [cell_heap g0.out]; rfl
  have q1 : W.cell? ⟨w.heap.size, 1, none⟩ = some (.slice ap ys.length cp) := by rw [cell_heap g0.out]; rfl
  have q2 : W.cell? ⟨w.heap.size, 2, none⟩ = some (.int .i64 v) := by rw [cell_heap g0.out]; rfl
  have q3 : W.cell? ⟨w.heap.size, 3, none⟩ = some (.int .i64 k) := by rw [cell_heap g0.out]; rfl
  have z0 : W.cell? ⟨w.heap.size + 1, 0, none⟩ = some (.slice none 0 0) := by rw [cell_heap g1.out]; rfl
  have z1 : W.cell? ⟨w.heap.size + 1, 1, none⟩ = some (.slice none 0 0) := by rw [cell_heap g1.out]; rfl
  have z2 : W.cell? ⟨w.heap.size + 1, 2, none⟩ = some (.int .i64 0) := by rw [cell_heap g1.out]; rfl
  have z3 : W.cell? ⟨w.heap.size + 1, 3, none⟩ = some (.int .i64 0) := by rw [cell_heap g1.out]; rfl
  have fz : ∀ o, W.frozen? ⟨w.heap.size + 1, o, none⟩ = false := fun o => frozen_heap g1.out o
  have lR : Hid (∀ g, rv.ownBlock = some g → g < w.heap.size) := fun g hg => (World.ownsRow.lt HR.out g hg).2
  have lP : Hid (∀ g, pv.ownBlock = some g → g < w.heap.size) := fun g hg => (World.ownsRow.lt HP.out g hg).2
  rw [HRV.out, HPV.out]
  go_enter Try.func160, Try.ntmps160
  go_wp2_with fail
  rw [← HW.out]
  refine (l3At ap cp ys.length ys j W (SP.out.below BW.out) rfl (by omega)).mono ?_
  rintro e w1 ⟨rfl, hw⟩
  rw [hw]
  clear hw
  cases hy : hasBox ys j with
  | true =>
    obtain ⟨pe, pl⟩ := place_idx ys j hy
    rw [pe]
    have EP : Hid (putP ys j n = ys.set (idxBox ys j) ((ys.getD (idxBox ys j) (0, 0)).1, n)) := by show _ = _; simp [putP, hy]
    generalize idxBox ys j = m at pl EP
    clear pe hy
    rcases SP.out with h0 | ⟨b, off, rfl, hat0⟩
    · rw [h0] at pl; simp at pl
    obtain ⟨ob, h0, _⟩ := HBP.out _ rfl
    dsimp only at ob h0
    subst h0
    have hbw : b < w.heap.size := hat0.1
    have HPW : Hid (OwnP 143 W B (.slice (some ⟨b, 0, none⟩) ys.length cp) ys) := by
      show OwnP _ _ _ _ _
      rw [← HPV.out]; exact HP.out.below BW.out
    have cy := ((hat0.below BW.out).2 m pl).2
    rw [Nat.zero_add] at cy
    have fb : ∀ o, W.frozen? ⟨b, o, none⟩ = false := fun o => OwnP.frozen HPW.out o
    clear hat0
    have dm : decide ((0 : Int) ≤ (m : Int)) = true := by simp
    have hml : (m : Int) < ((ys.length : Nat) : Int) := by omega
    have bn : ¬ b = w.heap.size := by omega
    have bn' : ¬ w.heap.size = b := by omega
    have bm : ¬ b = w.heap.size + 1 := by omega
    have bm' : ¬ w.heap.size + 1 = b := by omega
    have FIN : Hid (∀ W', (W.setCell ⟨b, m * 2 + 1, none⟩ (.int .i64 n)).grownBy W' (some (w.heap.size + 1)) → OwnP 140 W' B rv xs ∧ OwnP 143 W' B (.slice (some ⟨b, 0, none⟩) ys.length cp) (putP ys j n) ∧ (rv.ownBlock = none ∨ rv.ownBlock ≠ (Value.slice (some ⟨b, 0, none⟩) ys.length cp).ownBlock) ∧ w.grownBy W' pv.ownBlock ∧ (∀ g, (Value.slice (some ⟨b, 0, none⟩) ys.length cp).ownBlock = some g → pv.ownBlock = some g ∨ w.heap.size ≤ g)) := by
      intro W' hk
      have s1 : W.grownBy (W.setCell ⟨b, m * 2 + 1, none⟩ (.int .i64 n)) (some b) := grSet (grR _ _) _
      refine ⟨?_, ?_, ?_, ?_, ?_⟩
      · refine ((HR.out.below BW.out).keep s1 ?_).keep hk ?_
        · rw [← ob]; exact HD.out
        · cases h : rv.ownBlock with
          | none => exact .inl rfl
          | some q => refine .inr fun e => ?_; injection e with e; have := lR.out _ h; omega
      · have o := (HPW.out.set m pl n)
        rw [EP.out]
        have o2 : OwnP 143 W' B (.slice (some ⟨b, 0, none⟩) ys.length cp) (ys.set m ((ys.getD m (0, 0)).1, n)) := o.keep hk (.inr fun e => by injection e with e; exact bm e)
        exact o2
      · show _ ∨ rv.ownBlock ≠ some b
        rw [← ob]; exact HD.out
      · rw [ob]; exact grNew ((grBelow BW.out).trans s1) hk (by omega)
      · intro g e; exact .inl (by rw [ob]; exact e)
    have FIN' : Hid (∀ W', (W.setCell ⟨b, m * 2 + 1, none⟩ (.int .i64 n)).grownBy W' (some (w.heap.size + 1)) → OwnP 140 W' B rv xs ∧ OwnP 143 W' B pv (putP ys j n) ∧ (rv.ownBlock = none ∨ rv.ownBlock ≠ pv.ownBlock) ∧ w.grownBy W' pv.ownBlock ∧ (∀ g, pv.ownBlock = some g → pv.ownBlock = some g ∨ w.heap.size ≤ g)) := fun W' hk => by
      have F := FIN.out W' hk
      rw [← HPV.out] at F
      exact F
    go_wp2
    refine bodyPost_ret (v := .agg #[.slice ar xs.length cr, .slice (some ⟨b, 0, none⟩) ys.length cp, .int .i64 v, .int .i64 k]) (by simp [results, Try.results160, go_sem, z0, z1, z2, z3, bm, bm']) rfl ⟨_, rfl, ?_⟩
    rw [← HRV.out, ← HPV.out]
    refine FIN'.out _ ?_
    repeat (first | exact grR _ _ | apply grSet | apply grDrew | apply grDrewN)
  | false =>
    rw [place_no ys j hy]
    have EP : Hid (putP ys j n = ys ++ [((j : Int), n)]) := by show _ = _; simp [putP, hy]
    clear hy
    obtain ⟨i0, hi0, hz0, hz1, hz2⟩ := info_parts infoPut
    have I0 : Hid (Try.prog.info? 143 = some i0 ∧ i0.zero = some (.agg #[.int .i64 0, .int .i64 0]) ∧ i0.size = 2 ∧ i0.bytes = 16) := ⟨hi0, hz0, hz1, hz2⟩
    clear hi0 hz0 hz1 hz2
    have HPW : Hid (W.ownsRow B 143 2 (.slice ap ys.length cp) ys.length (flat ys)) := by
      show W.ownsRow _ _ _ _ _ _
      rw [← HPV.out]; exact HP.out.below BW.out
    have OB : Hid (pv.ownBlock = (Value.slice ap ys.length cp).ownBlock) := by show _ = _; rw [HPV.out]
    have hN : Hid (ys.length + 1 ≤ maxLen) := by show _ ≤ _; unfold maxLen; omega
    have hBy : Hid ((ys.length + 1) * 16 ≤ 140737488355328) := by show _ ≤ _; omega
    have hBs : Hid (B ≤ (W.alloc (.cells #[.int .i64 j, .int .i64 n] 143)).heap.size) := by show _ ≤ _; rw [size_new]; omega
    go_wp2_with (at_builtin; refine wpList_append_lies _ rfl (.tmp 22) (.tmp 26) 29 rfl B 143 i0 (.agg #[.int .i64 0, .int .i64 0]) 2 16 Try.underlying29 I0.out.1 I0.out.2.1 I0.out.2.2.1 I0.out.2.2.2 rfl (by decide) (.slice ap ys.length cp) ys.length (flat ys) rfl (HPW.out.alloc _) ⟨W.heap.size, 0, none⟩ 1 1 [.int .i64 j, .int .i64 n] rfl rfl (World.news_of_block (cs := #[.int .i64 j, .int .i64 n]) (t := 143) (fr := (0, 0)) (heap_alloc_new W _)) (by simp [Value.oneCell']) (by decide) hN.out hBy.out hBs.out (W.heap.size + 1) (size_new _ _) ?_)
    intro gg cap w1 hown1 hgrow hat hlt
    have GW : W.grownBy w1 (Value.slice ap ys.length cp).ownBlock := World.grownBy.trans (grAlloc (grR W _) _) hgrow
    have nN : (Value.slice ap ys.length cp).ownBlock ≠ some w.heap.size ∧ (Value.slice ap ys.length cp).ownBlock ≠ some (w.heap.size + 1) := by
      rw [← OB.out]
      exact ⟨fun e => by have := lP.out _ e; omega, fun e => by have := lP.out _ e; omega⟩
    have G0 : w1.heap[w.heap.size]? = some (.cells #[.slice ar xs.length cr, .slice ap ys.length cp, .int .i64 v, .int .i64 k] 31 (0, 0)) := by rw [GW.block _ (by omega) (Ne.symm nN.1)]; exact g0.out
    have G1 : w1.heap[w.heap.size + 1]? = some (.cells #[.slice none 0 0, .slice none 0 0, .int .i64 0, .int .i64 0] 31 (0, 0)) := by rw [GW.block _ (by omega) (Ne.symm nN.2)]; exact g1.out
    have c0 : w1.cell? ⟨w.heap.size, 0, none⟩ = some (.slice ar xs.length cr) := (cell_heap G0 0).trans rfl
    have c1 : w1.cell? ⟨w.heap.size, 1, none⟩ = some (.slice ap ys.length cp) := (cell_heap G0 1).trans rfl
    have c2 : w1.cell? ⟨w.heap.size, 2, none⟩ = some (.int .i64 v) := (cell_heap G0 2).trans rfl
    have c3 : w1.cell? ⟨w.heap.size, 3, none⟩ = some (.int .i64 k) := (cell_heap G0 3).trans rfl
    have y0 : w1.cell? ⟨w.heap.size + 1, 0, none⟩ = some (.slice none 0 0) := (cell_heap G1 0).trans rfl
    have y1 : w1.cell? ⟨w.heap.size + 1, 1, none⟩ = some (.slice none 0 0) := (cell_heap G1 1).trans rfl
    have y2 : w1.cell? ⟨w.heap.size + 1, 2, none⟩ = some (.int .i64 0) := (cell_heap G1 2).trans rfl
    have y3 : w1.cell? ⟨w.heap.size + 1, 3, none⟩ = some (.int .i64 0) := (cell_heap G1 3).trans rfl
    have fx : ∀ o, w1.frozen? ⟨w.heap.size, o, none⟩ = false := fun o => frozen_heap G0 o
    have fy : ∀ o, w1.frozen? ⟨w.heap.size + 1, o, none⟩ = false := fun o => frozen_heap G1 o
    have FIN : Hid (∀ W', (w1.setCell ⟨w.heap.size, 1, none⟩ (.slice (some ⟨gg, 0, none⟩) (ys.length + 1) cap)).grownBy W' (some (w.heap.size + 1)) → OwnP 140 W' B rv xs ∧ OwnP 143 W' B (.slice (some ⟨gg, 0, none⟩) (ys.length + 1) cap) (putP ys j n) ∧ (rv.ownBlock = none ∨ rv.ownBlock ≠ (Value.slice (some ⟨gg, 0, none⟩) (ys.length + 1) cap).ownBlock) ∧ w.grownBy W' pv.ownBlock ∧ (∀ g, (Value.slice (some ⟨gg, 0, none⟩) (ys.length + 1) cap).ownBlock = some g → pv.ownBlock = some g ∨ w.heap.size ≤ g)) := by
      intro W' hk
      have s1 : w1.grownBy (w1.setCell ⟨w.heap.size, 1, none⟩ (.slice (some ⟨gg, 0, none⟩) (ys.length + 1) cap)) (some w.heap.size) := grSet (grR _ _) _
      have hgg : gg ≠ w.heap.size ∧ gg ≠ w.heap.size + 1 ∧ (∀ q, rv.ownBlock = some q → q ≠ gg) := by
        rcases hat with h | h
        · rw [← OB.out] at h
          have := lP.out _ h
          refine ⟨by omega, by omega, fun q hq e => ?_⟩
          rcases HD.out with h' | h'
          · rw [hq] at h'; cases h'
          · exact h' (by rw [h, hq, e])
        · refine ⟨by omega, by omega, fun q hq e => ?_⟩
          have := lR.out _ hq
          omega
      refine ⟨?_, ?_, ?_, ?_, ?_⟩
      · refine (((HR.out.below BW.out).keep GW ?_).keep s1 ?_).keep hk ?_
        · rw [← OB.out]; exact HD.out
        · cases h : rv.ownBlock with
          | none => exact .inl rfl
          | some q => refine .inr fun e => ?_; injection e with e; have := lR.out _ h; omega
        · cases h : rv.ownBlock with
          | none => exact .inl rfl
          | some q => refine .inr fun e => ?_; injection e with e; have := lR.out _ h; omega
      · have o : OwnP 143 w1 B (.slice (some ⟨gg, 0, none⟩) (ys.length + 1) cap) (ys ++ [((j : Int), n)]) := by
          unfold OwnP
          rw [List.length_append, flat_snocP]
          exact hown1
        rw [EP.out]
        refine (o.keep s1 (.inr ?_)).keep hk (.inr ?_)
        · intro e; injection e with e; exact hgg.1 e
        · intro e; injection e with e; exact hgg.2.1 e
      · refine .inr fun e => ?_
        exact hgg.2.2 gg e rfl
      · rw [OB.out]
        exact grNew (grNew ((grBelow BW.out).trans GW) s1 (Nat.le_refl _)) hk (by omega)
      · intro g e
        have e' : gg = g := Option.some.inj e
        subst e'
        rcases hat with h | h
        · exact .inl (by rw [OB.out]; exact h)
        · exact .inr (by omega)
    clear hown1 hgrow hat hlt GW nN G0 G1
    go_wp2
    refine bodyPost_ret (v := .agg #[.slice ar xs.length cr, .slice (some ⟨gg, 0, none⟩) (ys.length + 1) cap, .int .i64 v, .int .i64 k]) (by simp [results, Try.results160, go_sem, y0, y1, y2, y3]) rfl ⟨_, rfl, ?_⟩
    rw [← HRV.out, ← HPV.out]
    refine FIN.out _ ?_
    repeat (first | exact grR _ _ | apply grSet | apply grDrew | apply grDrewN)
end Go.Proofs.Ytfifiobcmdmefaa.Own

namespace Go.Proofs.Ytfifiobcmdmefaa.Own
open Go.RowKit
set_option linter.unusedVariables false

theorem Turned.set {L : List Nat} {a b : World} {p : Addr} (h : Turned L a b) (hp : p.block ∈ L) (v : Value) : Turned L a (b.setCell p v) :=
  ⟨h.os, h.tape, h.output, by simpa [World.setCell] using h.size, fun i hi hn => by rw [Below.heap_setCell _ _ _ _ (fun e => hn (by rw [e]; exact hp))]; exact h.block i hi hn⟩
theorem Turned.alloc {L : List Nat} {a b : World} (h : Turned L a b) (o : Obj) : Turned L a (b.alloc o) := h.trans (Turned.ofBelow (below_new _ _))
theorem Turned.drew {L : List Nat} {a b : World} (h : Turned L a b) : Turned L a b.drew := h.trans ⟨rfl, rfl, rfl, Nat.le_refl _, fun _ _ _ => rfl⟩
theorem Turned.drewN {L : List Nat} {a b : World} (h : Turned L a b) (n : Nat) : Turned L a (b.drewN n) := h.trans ⟨rfl, rfl, rfl, Nat.le_refl _, fun _ _ _ => rfl⟩
theorem Turned.ofGrown {L : List Nat} {w w' : World} {row : Option Nat} (h : w.grownBy w' row) (hr : ∀ g, row = some g → g ∈ L) : Turned L w w' :=
  ⟨h.os, h.tape, h.output, h.size, fun k hk hn => h.block k hk (fun e => hn (hr k e.symm))⟩
theorem OwnP.turned {L : List Nat} {t : TypeId} {w w' : World} {B : Nat} {v : Value} {xs : List P2} (h : OwnP t w B v xs) (ht : Turned L w w') (hv : ∀ g, v.ownBlock = some g → g ∉ L) : OwnP t w' B v xs := by
  obtain ⟨h1, h2⟩ := h
  refine ⟨h1, ?_⟩
  rcases h2 with h2 | ⟨g, cap, cur, e, hg, hh, r⟩
  · exact .inl h2
  · exact .inr ⟨g, cap, cur, e, hg, by rw [ht.block g (Array.getElem?_eq_some_iff.1 hh).1 (hv g (by rw [e]; rfl))]; exact hh, r⟩
theorem IntAt.turned {L : List Nat} {w w' : World} {b off : Nat} {xs : List Int} (h : IntAt w b off xs) (ht : Turned L w w') (hb : b ∉ L) : IntAt w' b off xs :=
  h.congr (Nat.lt_of_lt_of_le h.1 ht.size) (fun o => World.cell?_of_block (w := w) (a := ⟨b, o, none⟩) (ht.block b h.1 hb))
theorem IntAt.set0 {w : World} {b : Nat} {xs : List Int} (h : IntAt w b 0 xs) (i : Nat) (hi : i < xs.length) (n : Int) : IntAt (w.setCell ⟨b, i, none⟩ (.int .i64 n)) b 0 (xs.set i n) := by
  refine ⟨by simpa [World.setCell] using h.1, fun j hj => ?_⟩
  rw [List.length_set] at hj
  have hx := h.2 j hj
  rw [Nat.zero_add] at hx ⊢
  by_cases e : i = j
  · subst e
    rw [setCell_cell_same _ _ _ _ _ hx]
    simp [List.getD, hi]
  · rw [setCell_cell_other _ _ _ _ _ e, hx]
    simp [List.getD, e]

/-- Of the blocks below B none but rg has turned. -/
structure Kp (B rg : Nat) (w w' : World) : Prop where
  os : w'.os = w.os
  tape : w'.tape = w.tape
  output : w'.output = w.output
  size : w.heap.size ≤ w'.heap.size
  block : ∀ k, k < B → k ≠ rg → w'.heap[k]? = w.heap[k]?
theorem Kp.refl (B rg : Nat) (w : World) : Kp B rg w w := ⟨rfl, rfl, rfl, Nat.le_refl _, fun _ _ _ => rfl⟩
theorem Kp.trans {B rg : Nat} {a b c : World} (h : Kp B rg a b) (k : Kp B rg b c) : Kp B rg a c :=
  ⟨k.os.trans h.os, k.tape.trans h.tape, k.output.trans h.output, Nat.le_trans h.size k.size, fun i hi hn => (k.block i hi hn).trans (h.block i hi hn)⟩
theorem Turned.kp {L : List Nat} {w w' : World} {B rg : Nat} (h : Turned L w w') (hB : B ≤ w.heap.size) (hL : ∀ x, x ∈ L → B ≤ x ∨ x = rg) : Kp B rg w w' :=
  ⟨h.os, h.tape, h.output, h.size, fun k hk hn => h.block k (by omega) (fun e => by rcases hL k e with h | h <;> omega)⟩

/-- A run under way: its registers in block rg, what it looked into and what it would put in rows of its own from B on. -/
structure Held (B rg : Nat) (w : World) (rv pv : Value) (s : RunSt) : Prop where
  regs : IntAt w rg 0 s.regs
  four : s.regs.length = 4
  free : ∀ o, w.frozen? ⟨rg, o, none⟩ = false
  reads : OwnP 140 w B rv s.reads
  puts : OwnP 143 w B pv s.puts
  apart : rv.ownBlock = none ∨ rv.ownBlock ≠ pv.ownBlock

theorem Held.turned {L : List Nat} {B rg : Nat} {w w' : World} {rv pv : Value} {s : RunSt} (h : Held B rg w rv pv s) (ht : Turned L w w') (hg : rg ∉ L) (hr : ∀ g, rv.ownBlock = some g → g ∉ L) (hp : ∀ g, pv.ownBlock = some g → g ∉ L) : Held B rg w' rv pv s :=
  ⟨h.regs.turned ht hg, h.four, fun o => by rw [World.frozen?_of_block (w := w) (a := ⟨rg, o, none⟩) (ht.block rg h.regs.1 hg)]; exact h.free o, h.reads.turned ht hr, h.puts.turned ht hp, h.apart⟩
theorem Held.setR {B rg : Nat} {w : World} {rv pv : Value} {s : RunSt} (h : Held B rg w rv pv s) (hg : rg < B) (a : Nat) (ha : a < 4) (n : Int) : Held B rg (w.setCell ⟨rg, a, none⟩ (.int .i64 n)) rv pv (setReg s a n) := by
  have e : Turned [rg] w (w.setCell ⟨rg, a, none⟩ (.int .i64 n)) := (Turned.refl _ _).set (by simp) _
  refine ⟨h.regs.set0 a (by rw [h.four]; exact ha) n, by simp [setReg, h.four], fun o => by simpa using h.free o, h.reads.turned e (fun g e => ?_), h.puts.turned e (fun g e => ?_), h.apart⟩
  · have := (World.ownsRow.lt h.reads g e).1; simp; omega
  · have := (World.ownsRow.lt h.puts g e).1; simp; omega
theorem Held.code {B rg : Nat} {w : World} {rv pv : Value} {s : RunSt} (h : Held B rg w rv pv s) (c : Int) : Held B rg w rv pv { s with code := c } := ⟨h.regs, h.four, h.free, h.reads, h.puts, h.apart⟩
end Go.Proofs.Ytfifiobcmdmefaa.Own

namespace Go.Proofs.Ytfifiobcmdmefaa.Own
open Go.RowKit
set_option linter.unusedVariables false
set_option linter.unusedSimpArgs false

set_option maxHeartbeats 400000 in
theorem isNumberC (n : Int) (w : World) : Calls Try.prog 213 #[.int .i64 n] w fun e w' => e = .returned (.bool (numOk n)) ∧ w' = w := by
  have e : Hid (numOk n = (decide (-1000000 ≤ n) && decide (n ≤ 1000000))) := rfl
  by_cases h1 : -1000000 ≤ n
  · by_cases h2 : n ≤ 1000000
    all_goals
      go_enter Try.func213, Try.ntmps213
      go_wp2
      go_ret
      exact ⟨ret_bool (by rw [e.out]; simp [h1, h2]), rfl⟩
  · have h1' : decide (-1000000 ≤ n) = false := by simpa using h1
    go_enter Try.func213, Try.ntmps213
    go_wp2
    go_ret
    exact ⟨ret_bool (by rw [e.out, h1']; rfl), rfl⟩

set_option maxHeartbeats 400000 in
theorem firstYes (b off j : Nat) (w : World) (hj : j < 4) (hc : w.cell? ⟨b, off + j, none⟩ = some (.bool false)) (hf : w.frozen? ⟨b, off + j, none⟩ = false) :
    Calls Try.prog 214 #[.pointer (some ⟨b, off, none⟩), .int .i64 j] w fun e w' => e = .returned (.bool true) ∧ w' = w.setCell ⟨b, off + j, none⟩ (.bool true) := by
  have h1 : ¬ (4 : Int) ≤ (j : Int) := by omega
  go_enter Try.func214, Try.ntmps214
  go_wp2
  go_ret
  exact ⟨rfl, rfl⟩

set_option maxHeartbeats 400000 in
theorem firstTwice (b off j : Nat) (w : World) (hj : j < 4) (hc : w.cell? ⟨b, off + j, none⟩ = some (.bool true)) :
    Calls Try.prog 214 #[.pointer (some ⟨b, off, none⟩), .int .i64 j] w fun e w' => e = .returned (.bool false) ∧ w' = w := by
  have h1 : ¬ (4 : Int) ≤ (j : Int) := by omega
  go_enter Try.func214, Try.ntmps214
  go_wp2
  go_ret
  exact ⟨rfl, rfl⟩

set_option maxHeartbeats 400000 in
theorem firstNone (p : Option Addr) (n : Int) (w : World) (h : regOk n = false) :
    Calls Try.prog 214 #[.pointer p, .int .i64 n] w fun e w' => e = .returned (.bool false) ∧ w' = w := by
  by_cases h0 : n < 0
  · clear h
    go_enter Try.func214, Try.ntmps214
    go_wp2
    go_ret
    exact ⟨rfl, rfl⟩
  · have h4 : 4 ≤ n := by
      simp [regOk] at h
      omega
    clear h
    go_enter Try.func214, Try.ntmps214
    go_wp2
    go_ret
    exact ⟨rfl, rfl⟩

/-- Marks of boxes in memory. -/
def MarksAt (w : World) (b off : Nat) (m : Nat → Bool) : Prop := b < w.heap.size ∧ (∀ j, j < 4 → w.cell? ⟨b, off + j, none⟩ = some (.bool (m j))) ∧ (∀ o, w.frozen? ⟨b, o, none⟩ = false)

theorem MarksAt.keep {w w' : World} {b off : Nat} {m : Nat → Bool} (h : MarksAt w b off m) (hs : w.heap.size ≤ w'.heap.size) (hb : w'.heap[b]? = w.heap[b]?) : MarksAt w' b off m :=
  ⟨Nat.lt_of_lt_of_le h.1 hs, fun j hj => by rw [World.cell?_of_block (w := w) (a := ⟨b, off + j, none⟩) hb]; exact h.2.1 j hj, fun o => by rw [World.frozen?_of_block (w := w) (a := ⟨b, o, none⟩) hb]; exact h.2.2 o⟩
theorem MarksAt.alloc {w : World} {b off : Nat} {m : Nat → Bool} (h : MarksAt w b off m) (o : Obj) : MarksAt (w.alloc o) b off m :=
  h.keep (by rw [size_new]; omega) (heap_old w o b h.1)
theorem MarksAt.congr {w : World} {b off : Nat} {m m' : Nat → Bool} (h : MarksAt w b off m) (e : ∀ j, j < 4 → m j = m' j) : MarksAt w b off m' :=
  ⟨h.1, fun j hj => by rw [← e j hj]; exact h.2.1 j hj, h.2.2⟩
theorem MarksAt.set {w : World} {b off : Nat} {m : Nat → Bool} (h : MarksAt w b off m) (i : Nat) (hi : i < 4) : MarksAt (w.setCell ⟨b, off + i, none⟩ (.bool true)) b off (fun j => m j || decide (i = j)) := by
  refine ⟨by simpa [World.setCell] using h.1, fun j hj => ?_, fun o => by simpa using h.2.2 o⟩
  by_cases e : i = j
  · subst e
    rw [setCell_cell_same _ _ _ _ _ (h.2.1 i hi)]; simp
  · rw [setCell_cell_other _ _ _ _ _ (by omega), h.2.1 j hj]; simp [e]

theorem marks_new (w : World) (t : TypeId) : MarksAt (w.alloc (.cells #[.bool false, .bool false, .bool false, .bool false] t)) w.heap.size 0 (fun _ => false) := by
  refine ⟨by rw [size_new]; omega, fun j hj => ?_, fun o => frozen_heap (heap_new _ _) o⟩
  rw [cell_heap (heap_new _ _)]
  match j, hj with
  | 0, _ | 1, _ | 2, _ | 3, _ => rfl

theorem regOk_nat {n : Int} (h : regOk n = true) : ∃ j : Nat, j < 4 ∧ n = j := by
  simp [regOk] at h
  exact ⟨n.toNat, by omega, by omega⟩
theorem regOk_of (j : Nat) (h : j < 4) : regOk (j : Int) = true := by
  simp [regOk]; omega

theorem seen_step {xs : List P2} {k j : Nat} (h : k < xs.length) (hj : (xs.getD k (0, 0)).1 = (j : Int)) (i : Nat) : seen xs (k + 1) i = (seen xs k i || decide (j = i)) := by
  rw [seen_succ _ _ _ h, hj]
  congr 1
  rw [Bool.eq_iff_iff]; simp only [beq_iff_eq, decide_eq_true_eq]; omega

set_option maxRecDepth 100000 in
set_option maxHeartbeats 1000000 in
theorem readsOkC (a : Option Addr) (c : Nat) (xs : List P2) (w : World) (h : Sl w a xs) (hn : xs.length ≤ 2 ^ 40) :
    Calls Try.prog 211 #[.slice a xs.length c] w fun e w' => e = .returned (.bool (okAll verOk xs)) ∧ Below w.heap.size w w' := by
  have H1 : Hid (Sl w a xs) := h
  clear h
  go_enter Try.func211, Try.ntmps211
  go_wp2
  go_loopw [8] (fun i wr => ∃ k : Nat, k ≤ xs.length ∧ i = .int .i64 k ∧ Hid (∀ i, i < k → okAt verOk xs i = true) ∧ MarksAt wr w.heap.size 0 (seen xs k) ∧ Below w.heap.size w wr) (fun i _ => xs.length - (intOf i).toNat)
  case atStart => exact ⟨0, Nat.zero_le _, rfl, fun i hi => by omega, (marks_new w _).congr fun j _ => (seen_zero xs j).symm, (Below.refl _ _).alloc (Nat.le_refl _) _⟩
  case round =>
    obtain ⟨k, hk, rfl, hA, hM, hB⟩ := hrel
    by_cases hlt : k < xs.length
    · rcases H1.out with h | ⟨b1, o1, rfl, h1⟩
      · subst h; simp at hlt
      have H1' : Hid (BoxAt w b1 o1 xs) := h1
      clear h1
      obtain ⟨p, hp⟩ : ∃ p, p = xs.getD k (0, 0) := ⟨_, rfl⟩
      obtain ⟨ca, cb⟩ := H1'.out.2 k hlt
      rw [← hB.cell H1'.out.1, ← hp] at ca cb
      have HP : Hid (p = xs.getD k (0, 0)) := hp
      have HB : Hid (Below w.heap.size w wr) := hB
      have HM : Hid (MarksAt wr w.heap.size 0 (seen xs k)) := hM
      clear hp hB hM
      obtain ⟨p1, p2⟩ := p
      have F : Hid (okAt verOk xs k = false → okAll verOk xs = false) := fun t => okAll_false hlt t
      have HBa : ∀ o, Hid (Below w.heap.size w (wr.alloc o)) := fun o => HB.out.alloc HB.out.size _
      cases hr : regOk p1 with
      | false =>
        have F' : Hid (okAll verOk xs = false) := F.out (by unfold okAt; rw [← HP.out]; simp only [hr, Bool.false_and])
        have HR : Hid (regOk p1 = false) := hr
        clear F hr
        go_wp2_with fail
        refine (firstNone _ p1 _ HR.out).mono ?_
        rintro e w1 ⟨rfl, rfl⟩
        go_wp2
        go_ret
        exact ⟨ret_bool F'.out.symm, (HBa _).out⟩
      | true =>
        obtain ⟨j, hj, rfl⟩ := regOk_nat hr
        clear hr
        have HJ : Hid ((xs.getD k (0, 0)).1 = (j : Int)) := by show _ = _; rw [← HP.out]
        have HS : Hid (okAt verOk xs k = (regOk (j : Int) && verOk p2 && !seen xs k j)) := by
          show _ = _
          rw [okAt_seen verOk xs k j HJ.out, ← HP.out]
        cases hs : seen xs k j with
        | true =>
          have F' : Hid (okAll verOk xs = false) := F.out (by rw [HS.out, hs]; simp)
          have hc : Hid (∀ o, (wr.alloc o).cell? ⟨w.heap.size, 0 + j, none⟩ = some (.bool true)) := fun o => by
            have := (HM.out.alloc o).2.1 j hj
            rw [hs] at this; exact this
          clear F hs
          go_wp2_with fail
          refine (firstTwice w.heap.size 0 j _ hj (hc.out _)).mono ?_
          rintro e w1 ⟨rfl, rfl⟩
          go_wp2
          go_ret
          exact ⟨ret_bool F'.out.symm, (HBa _).out⟩
        | false =>
          have hc : Hid (∀ o, (wr.alloc o).cell? ⟨w.heap.size, 0 + j, none⟩ = some (.bool false) ∧ (wr.alloc o).frozen? ⟨w.heap.size, 0 + j, none⟩ = false) := fun o => by
            have := (HM.out.alloc o).2.1 j hj
            rw [hs] at this; exact ⟨this, (HM.out.alloc o).2.2 _⟩
          have HS' : Hid (seen xs k j = false) := hs
          clear hs
          have AF : Hid (∀ w1, w1 = (wr.alloc (.cells #[.int .i64 (j : Int), .int .i64 p2] 140)).setCell ⟨w.heap.size, 0 + j, none⟩ (.bool true) → w1.cell? ⟨wr.heap.size, 1, none⟩ = some (.int .i64 p2) ∧ Hid (MarksAt w1 w.heap.size 0 (seen xs (k + 1))) ∧ Hid (Below w.heap.size w w1)) := by
            intro w1 hw
            have hsz : w.heap.size < wr.heap.size := HM.out.1
            refine ⟨?_, ?_, ?_⟩
            · rw [hw, World.cell?_setCell_other _ _ _ _ (by intro e; injection e with e1; omega), cell_heap (heap_new _ _)]; rfl
            · rw [hw]; exact ((HM.out.alloc _).set j hj).congr fun i hi => (seen_step hlt HJ.out i).symm
            · rw [hw]; exact (HBa _).out.setCell (Nat.le_refl _) _
          by_cases t1 : p2 < 0
          · have F' : Hid (okAll verOk xs = false) := F.out (by rw [HS.out]; simp [verOk]; omega)
            clear F
            go_wp2_with fail
            refine (firstYes w.heap.size 0 j _ hj (hc.out _).1 (hc.out _).2).mono ?_
            rintro e w1 ⟨rfl, hw⟩
            obtain ⟨c1, M1, B1⟩ := AF.out w1 hw
            clear hw AF
            go_wp2
            go_ret
            exact ⟨ret_bool F'.out.symm, B1.out⟩
          · by_cases t2 : 1000000 < p2
            · have F' : Hid (okAll verOk xs = false) := F.out (by rw [HS.out]; simp [verOk]; omega)
              clear F
              go_wp2_with fail
              refine (firstYes w.heap.size 0 j _ hj (hc.out _).1 (hc.out _).2).mono ?_
              rintro e w1 ⟨rfl, hw⟩
              obtain ⟨c1, M1, B1⟩ := AF.out w1 hw
              clear hw AF
              go_wp2
              go_ret
              exact ⟨ret_bool F'.out.symm, B1.out⟩
            · have N : Hid (∀ i, i < k + 1 → okAt verOk xs i = true) := by
                intro i hi
                by_cases e : i = k
                · subst e
                  rw [HS.out, HS'.out, regOk_of j hj]; simp [verOk]; omega
                · exact hA.out i (by omega)
              clear F
              go_wp2_with fail
              refine (firstYes w.heap.size 0 j _ hj (hc.out _).1 (hc.out _).2).mono ?_
              rintro e w1 ⟨rfl, hw⟩
              obtain ⟨c1, M1, B1⟩ := AF.out w1 hw
              clear hw AF
              go_wp2
              go_roundw
              case rel => exact ⟨k + 1, by omega, by go_num, N, M1.out, B1.out⟩
              case measure => simp [intOf]; omega
    · go_wp2
      go_ret
      have : k = xs.length := by omega
      subst this
      exact ⟨ret_bool (okAll_iff.2 hA.out).symm, hB⟩
end Go.Proofs.Ytfifiobcmdmefaa.Own

namespace Go.Proofs.Ytfifiobcmdmefaa.Own
open Go.RowKit
set_option linter.unusedVariables false

theorem region_still_tail {P : Program} {id : Nat} {Q : Exit → Act → World → Prop} {a : Act} {w : World} {l : List Oper} (n : Nat) (hm : P.follows .mixedOrders = true) (hB : Region.lexTailB .any l.toArray n = true)
    (h : wpStill P l.toArray w.drew (fun a' => wpList P l.toArray Q (l.drop n) a' w.drew) (l.take n) a) : (Code.region id l.toArray true).wp P Q a w := wp_region_still_tail n hm hB h

end Go.Proofs.Ytfifiobcmdmefaa.Own

namespace Go.Proofs.Ytfifiobcmdmefaa.Own
open Go.RowKit
set_option linter.unusedVariables false
set_option linter.unusedSimpArgs false

def freshAt (bs : List P2) (p : P2) : Bool := (bs.getD p.1.toNat (0, 0)).1 == p.2
/-- Boxes are as a run saw them. -/
def execFresh (bs xs ys : List P2) (v k : Int) : Bool := boxOk bs && execOk xs ys v k && xs.all (freshAt bs)

theorem execOk_reads {xs ys : List P2} {v k : Int} (h : execOk xs ys v k = true) : okAll verOk xs = true := by
  simp only [execOk, Bool.and_eq_true] at h
  exact h.1.2
theorem execOk_puts {xs ys : List P2} {v k : Int} (h : execOk xs ys v k = true) : okAll numOk ys = true := by
  simp only [execOk, Bool.and_eq_true] at h
  exact h.2
theorem okAll_box {f : Int → Bool} {xs : List P2} (h : okAll f xs = true) (i : Nat) (hi : i < xs.length) : ∃ j : Nat, j < 4 ∧ (xs.getD i (0, 0)).1 = j := by
  have := okAll_iff.1 h i hi
  simp only [okAt, Bool.and_eq_true] at this
  exact regOk_nat this.1.1
theorem boxOk_len {bs : List P2} (h : boxOk bs = true) : bs.length = 4 := by
  simp only [boxOk, Bool.and_eq_true, beq_iff_eq] at h
  exact h.1

end Go.Proofs.Ytfifiobcmdmefaa.Own

namespace Go.Proofs.Ytfifiobcmdmefaa.Own
open Go.RowKit
set_option linter.unusedVariables false

theorem getD_set2 (xs : List P2) (i j : Nat) (v : P2) (hi : i < xs.length) : (xs.set i v).getD j (0, 0) = if i = j then v else xs.getD j (0, 0) := by
  simp only [List.getD_eq_getElem?_getD, List.getElem?_set]
  by_cases e : i = j
  · simp [e, show j < xs.length by omega]
  · simp [e]

/-- A put, done to boxes. -/
def put1 (bs : List P2) (p : P2) : List P2 := bs.set p.1.toNat (min 1000000 ((bs.getD p.1.toNat (0, 0)).1 + 1), p.2)
def doPuts (bs ys : List P2) : List P2 := ys.foldl put1 bs
def execDo (bs xs ys : List P2) (v k : Int) : List P2 := if boxOk bs && execOk xs ys v k then doPuts bs ys else []

theorem put1_length (bs : List P2) (p : P2) : (put1 bs p).length = bs.length := by simp [put1]
theorem doPuts_length (bs ys : List P2) : (doPuts bs ys).length = bs.length := by
  unfold doPuts
  induction ys generalizing bs with
  | nil => rfl
  | cons y r ih => rw [List.foldl_cons, ih, put1_length]
theorem doPuts_succ (bs ys : List P2) (j : Nat) (h : j < ys.length) : doPuts bs (ys.take (j + 1)) = put1 (doPuts bs (ys.take j)) (ys.getD j (0, 0)) := by
  unfold doPuts
  rw [List.take_succ_eq_append_getElem h, List.foldl_append]
  simp [List.getD, h]

theorem boxOk_iff {bs : List P2} : boxOk bs = true ↔ bs.length = 4 ∧ ∀ i, i < bs.length → boxOk1 (bs.getD i (0, 0)) = true := by
  simp only [boxOk, Bool.and_eq_true, beq_iff_eq, List.all_eq_true]
  constructor
  · rintro ⟨h, h2⟩
    exact ⟨h, fun i hi => h2 _ (by simp [List.getD, hi])⟩
  · rintro ⟨h, h2⟩
    refine ⟨h, fun x hx => ?_⟩
    obtain ⟨i, hi, rfl⟩ := List.getElem_of_mem hx
    simpa [List.getD, hi] using h2 i hi

theorem put1_ok {bs : List P2} {p : P2} (h : boxOk bs = true) (m : Nat) (hm : m < 4) (hp : p.1 = m) (hv : numOk p.2 = true) : boxOk (put1 bs p) = true := by
  have h' := boxOk_iff.1 h
  rw [boxOk_iff]
  refine ⟨by rw [put1_length]; exact h'.1, fun i hi => ?_⟩
  rw [put1_length] at hi
  have e : p.1.toNat = m := by omega
  unfold put1
  rw [e, getD_set2 _ _ _ _ (by omega)]
  by_cases e2 : m = i
  · rw [if_pos e2]
    have := h'.2 m (by omega)
    simp only [boxOk1, Bool.and_eq_true, decide_eq_true_eq] at this ⊢
    exact ⟨⟨by omega, by omega⟩, hv⟩
  · rw [if_neg e2]; exact h'.2 i hi
theorem doPuts_ok {bs ys : List P2} (h : boxOk bs = true) (hy : okAll numOk ys = true) : ∀ j, j ≤ ys.length → boxOk (doPuts bs (ys.take j)) = true
  | 0, _ => by simpa [doPuts] using h
  | j + 1, hj => by
    rw [doPuts_succ _ _ _ (by omega)]
    obtain ⟨m, hm, hp⟩ := okAll_box hy j (by omega)
    have := okAll_iff.1 hy j (by omega)
    simp only [okAt, Bool.and_eq_true] at this
    exact put1_ok (doPuts_ok h hy j (by omega)) m hm hp this.1.2
theorem boxOk_ver {bs : List P2} (h : boxOk bs = true) (i : Nat) (hi : i < 4) : 0 ≤ (bs.getD i (0, 0)).1 ∧ (bs.getD i (0, 0)).1 ≤ 1000000 := by
  have h' := boxOk_iff.1 h
  have := h'.2 i (by omega)
  simp only [boxOk1, Bool.and_eq_true, decide_eq_true_eq] at this
  exact this.1

theorem BoxAt.setBoth {w : World} {b off : Nat} {xs : List P2} (h : BoxAt w b off xs) (i : Nat) (hi : i < xs.length) (p q : Int) : BoxAt ((w.setCell ⟨b, off + i * 2, none⟩ (.int .i64 p)).setCell ⟨b, off + i * 2 + 1, none⟩ (.int .i64 q)) b off (xs.set i (p, q)) := by
  refine ⟨by simpa [World.setCell] using h.1, fun j hj => ?_⟩
  rw [List.length_set] at hj
  rw [getD_set2 _ _ _ _ hi]
  by_cases e : i = j
  · subst e
    rw [if_pos rfl]
    exact ⟨by rw [setCell_cell_other _ _ _ _ _ (by omega)]; exact setCell_cell_same _ _ _ _ _ (h.2 i hi).1, setCell_cell_same _ _ _ _ _ (by rw [setCell_cell_other _ _ _ _ _ (by omega)]; exact (h.2 i hi).2)⟩
  · rw [if_neg e, setCell_cell_other _ _ _ _ _ (by omega), setCell_cell_other _ _ _ _ _ (by omega), setCell_cell_other _ _ _ _ _ (by omega), setCell_cell_other _ _ _ _ _ (by omega)]
    exact h.2 j hj
end Go.Proofs.Ytfifiobcmdmefaa.Own

namespace Go.Proofs.Ytfifiobcmdmefaa.Own
open Go.RowKit
set_option linter.unusedVariables false
set_option linter.unusedSimpArgs false

/-- What a step leaves. -/
def StepPost (bs : List P2) (s : RunSt) (p : Q4) (B rg : Nat) (v : Int) (w : World) (e : Ending) (w' : World) : Prop :=
  ∃ rv' pv', e = .returned (.agg #[rv', pv', .int .i64 v, .int .i64 (stepR bs s p).code]) ∧ Held B rg w' rv' pv' (stepR bs s p) ∧ Kp B rg w w'

/-- The cells that l3Step lays: the run, the instruction, what it will say. -/
structure StepMem (N : Nat) (W : World) (rv pv : Value) (v c : Int) : Prop where
  c0 : W.cell? ⟨N, 0, none⟩ = some rv
  c1 : W.cell? ⟨N, 1, none⟩ = some pv
  c2 : W.cell? ⟨N, 2, none⟩ = some (.int .i64 v)
  c3 : W.cell? ⟨N, 3, none⟩ = some (.int .i64 c)
  f : ∀ o, W.frozen? ⟨N, o, none⟩ = false
  y0 : W.cell? ⟨N + 1 + 1, 0, none⟩ = some (.slice none 0 0)
  y1 : W.cell? ⟨N + 1 + 1, 1, none⟩ = some (.slice none 0 0)
  y2 : W.cell? ⟨N + 1 + 1, 2, none⟩ = some (.int .i64 0)
  y3 : W.cell? ⟨N + 1 + 1, 3, none⟩ = some (.int .i64 0)
  g : ∀ o, W.frozen? ⟨N + 1 + 1, o, none⟩ = false
  lt : N + 1 + 1 < W.heap.size
theorem StepMem.turned {L : List Nat} {N : Nat} {W W' : World} {rv pv : Value} {v c : Int} (h : StepMem N W rv pv v c) (ht : Turned L W W') (h0 : N ∉ L) (h2 : N + 1 + 1 ∉ L) : StepMem N W' rv pv v c := by
  have hl := h.lt
  have e : ∀ o, W'.cell? ⟨N, o, none⟩ = W.cell? ⟨N, o, none⟩ := fun o => World.cell?_of_block (w := W) (a := ⟨N, o, none⟩) (ht.block N (by omega) h0)
  have e2 : ∀ o, W'.cell? ⟨N + 1 + 1, o, none⟩ = W.cell? ⟨N + 1 + 1, o, none⟩ := fun o => World.cell?_of_block (w := W) (a := ⟨N + 1 + 1, o, none⟩) (ht.block (N + 1 + 1) (by omega) h2)
  have i : ∀ o, W'.frozen? ⟨N, o, none⟩ = W.frozen? ⟨N, o, none⟩ := fun o => World.frozen?_of_block (w := W) (a := ⟨N, o, none⟩) (ht.block N (by omega) h0)
  have i2 : ∀ o, W'.frozen? ⟨N + 1 + 1, o, none⟩ = W.frozen? ⟨N + 1 + 1, o, none⟩ := fun o => World.frozen?_of_block (w := W) (a := ⟨N + 1 + 1, o, none⟩) (ht.block (N + 1 + 1) (by omega) h2)
  exact ⟨by rw [e]; exact h.c0, by rw [e]; exact h.c1, by rw [e]; exact h.c2, by rw [e]; exact h.c3, fun o => by rw [i]; exact h.f o, by rw [e2]; exact h.y0, by rw [e2]; exact h.y1, by rw [e2]; exact h.y2, by rw [e2]; exact h.y3, fun o => by rw [i2]; exact h.g o, Nat.lt_of_lt_of_le h.lt ht.size⟩

set_option maxRecDepth 100000 in
set_option maxHeartbeats 4000000 in
theorem l3StepA (la : Option Addr) (lc : Nat) (bs : List P2) (rg rc : Nat) (s : RunSt) (rv pv : Value) (p : Q4) (v : Int) (B : Nat) (w : World)
    (hb : Sl w la bs) (l4 : bs.length = 4) (hla : ∀ x, la = some x → x.block < B) (hh : Held B rg w rv pv s) (hrg : rg < B) (hB : B ≤ w.heap.size) (lx : s.reads.length ≤ 1000) (ly : s.puts.length ≤ 1000)
    (hp : insOk p = true) (h6 : p.1 = 3 ∨ p.1 = 7 ∨ p.1 = 4 ∨ p.1 = 5) (hc : s.code = 0) (hn : ∀ i, i < 4 → numOk (s.regs.getD i 0) = true) :
    Calls Try.prog 129 #[.slice la bs.length lc, .agg #[rv, pv, .int .i64 v, .int .i64 s.code], .slice (some ⟨rg, 0, none⟩) 4 rc, .agg #[.int .i64 p.1, .int .i64 p.2.1, .int .i64 p.2.2.1, .int .i64 p.2.2.2]] w fun e w' => StepPost bs s p B rg v w e w' := by
  obtain ⟨kd, pa, pb, pn⟩ := p
  dsimp only at h6 ⊢
  obtain ⟨ar, cr, hrv, slr, hcr, hmr, hbr⟩ := hh.reads.open
  obtain ⟨ap, cp, hpv, slp, hcp, hmp, hbp⟩ := hh.puts.open
  have HH : Hid (Held B rg w rv pv s) := hh
  have HRV : Hid (rv = .slice ar s.reads.length cr) := hrv
  have HPV : Hid (pv = .slice ap s.puts.length cp) := hpv
  have SB : Hid (Sl w la bs) := hb
  have HLA : Hid (∀ x, la = some x → x.block < B) := hla
  have HN : Hid (∀ i, i < 4 → numOk (s.regs.getD i 0) = true) := hn
  have HC : Hid (s.code = 0) := hc
  have HOK : Hid (insOk (kd, pa, pb, pn) = true) := hp
  clear hh slr slp hb hbr hbp hcr hcp hmr hmp hla hn hp
  obtain ⟨W, hW⟩ : ∃ W, W = ((w.alloc (.cells #[.slice ar s.reads.length cr, .slice ap s.puts.length cp, .int .i64 v, .int .i64 0] 31)).alloc (.cells #[.int .i64 kd, .int .i64 pa, .int .i64 pb, .int .i64 pn] 188)).alloc (.cells #[.slice none 0 0, .slice none 0 0, .int .i64 0, .int .i64 0] 31) := ⟨_, rfl⟩
  have BW : Hid (Below w.heap.size w W) := by show Below _ _ _; rw [hW]; exact (((Below.refl _ _).alloc (Nat.le_refl _) _).alloc (by simp) _).alloc (by simp; omega) _
  have HSW : Hid (W.heap.size = w.heap.size + 3) := by show _ = _; rw [hW]; simp
  have g0 : W.heap[w.heap.size]? = some (.cells #[.slice ar s.reads.length cr, .slice ap s.puts.length cp, .int .i64 v, .int .i64 0] 31 (0, 0)) := by
    rw [hW, heap_old _ _ _ (by simp; omega), heap_old _ _ _ (by simp)]; exact heap_new _ _
  have g1 : W.heap[w.heap.size + 1]? = some (.cells #[.int .i64 kd, .int .i64 pa, .int .i64 pb, .int .i64 pn] 188 (0, 0)) := by
    rw [hW, heap_old _ _ _ (by simp)]; exact heap_new2 _ _ _
  have g2 : W.heap[w.heap.size + 1 + 1]? = some (.cells #[.slice none 0 0, .slice none 0 0, .int .i64 0, .int .i64 0] 31 (0, 0)) := by
    rw [hW]
    have := heap_new ((w.alloc (.cells #[.slice ar s.reads.length cr, .slice ap s.puts.length cp, .int .i64 v, .int .i64 0] 31)).alloc (.cells #[.int .i64 kd, .int .i64 pa, .int .i64 pb, .int .i64 pn] 188)) (.cells #[.slice none 0 0, .slice none 0 0, .int .i64 0, .int .i64 0] 31)
    rw [size_new, size_new] at this
    exact this
  have MW : Hid (StepMem w.heap.size W (.slice ar s.reads.length cr) (.slice ap s.puts.length cp) v 0) :=
    ⟨(cell_heap g0 0).trans rfl, (cell_heap g0 1).trans rfl, (cell_heap g0 2).trans rfl, (cell_heap g0 3).trans rfl, fun o => frozen_heap g0 o, (cell_heap g2 0).trans rfl, (cell_heap g2 1).trans rfl, (cell_heap g2 2).trans rfl, (cell_heap g2 3).trans rfl, fun o => frozen_heap g2 o, by have := HSW.out; omega⟩
  have i0 : W.cell? ⟨w.heap.size + 1, 0, none⟩ = some (.int .i64 kd) := (cell_heap g1 0).trans rfl
  have i1 : W.cell? ⟨w.heap.size + 1, 1, none⟩ = some (.int .i64 pa) := (cell_heap g1 1).trans rfl
  have i2 : W.cell? ⟨w.heap.size + 1, 2, none⟩ = some (.int .i64 pb) := (cell_heap g1 2).trans rfl
  have i3 : W.cell? ⟨w.heap.size + 1, 3, none⟩ = some (.int .i64 pn) := (cell_heap g1 3).trans rfl
  have GI : Hid (W.heap[w.heap.size + 1]? = some (.cells #[.int .i64 kd, .int .i64 pa, .int .i64 pb, .int .i64 pn] 188 (0, 0))) := g1
  have HW : Hid (W = _) := hW
  clear hW g0 g1 g2
  have hNW : w.heap.size + 1 + 1 < W.heap.size := by have := HSW.out; omega
  have HHW : Hid (Held B rg W rv pv s) := HH.out.turned (Turned.ofBelow (L := []) BW.out) (by simp) (by simp) (by simp)
  have lR : Hid (∀ g, rv.ownBlock = some g → B ≤ g ∧ g < w.heap.size) := fun g hg => World.ownsRow.lt HH.out.reads g hg
  have lP : Hid (∀ g, pv.ownBlock = some g → B ≤ g ∧ g < w.heap.size) := fun g hg => World.ownsRow.lt HH.out.puts g hg
  have KW : Hid (Kp B rg w W) := (Turned.ofBelow (L := []) BW.out).kp hB (by simp)
  -- from where the run's own cells and what it will say alone turn
  have TAIL : Hid (∀ (w1 W' : World) (rv' pv' : Value) (s' : RunSt), Held B rg w1 rv' pv' s' → Kp B rg w w1 → (∀ g, rv'.ownBlock = some g → g ≠ w.heap.size ∧ g ≠ w.heap.size + 1 + 1) → (∀ g, pv'.ownBlock = some g → g ≠ w.heap.size ∧ g ≠ w.heap.size + 1 + 1) → Turned [w.heap.size, w.heap.size + 1 + 1] w1 W' → Held B rg W' rv' pv' s' ∧ Kp B rg w W') := by
    intro w1 W' rv' pv' s' h1 h2 h3 h4 h5
    refine ⟨h1.turned h5 (by simp; omega) (fun g e => by have := h3 g e; simp; omega) (fun g e => by have := h4 g e; simp; omega), h2.trans (h5.kp (Nat.le_trans hB h2.size) (fun x hx => ?_))⟩
    simp at hx
    omega
  have NR : Hid (∀ g, rv.ownBlock = some g → g ≠ w.heap.size ∧ g ≠ w.heap.size + 1 + 1) := fun g e => by have := lR.out g e; omega
  have NP : Hid (∀ g, pv.ownBlock = some g → g ≠ w.heap.size ∧ g ≠ w.heap.size + 1 + 1) := fun g e => by have := lP.out g e; omega
  obtain ⟨c0, c1, c2, c3, fN, y0, y1, y2, y3, fY, _⟩ := MW.out
  rw [HRV.out, HPV.out, HC.out]
  rcases h6 with rfl | rfl | rfl | rfl
  · -- a number
    have ok := HOK.out
    rw [insOk_3] at ok
    simp only [Bool.and_eq_true] at ok
    obtain ⟨na, hna, rfl⟩ := regOk_nat ok.1.1
    clear ok
    have rga := HHW.out.regs.2 na (by rw [HHW.out.four]; exact hna)
    rw [Nat.zero_add] at rga
    have fa := HHW.out.free na
    have hai : (na : Int) < 4 := by omega
    have rn : ¬ rg = w.heap.size := by omega
    have rn1 : ¬ rg = w.heap.size + 1 := by omega
    have ES : Hid (stepR bs s (3, (na : Int), pb, pn) = setReg s na pn) := by show _ = _; simp [stepR]
    go_enter Try.func129, Try.ntmps129
    go_upto_region 1 with fail
    rw [← HW.out]
    go_wp2_with fail
    refine (l1Num pn _).mono ?_
    rintro e w1 ⟨rfl, hw⟩
    have T1 : Turned [rg] W w1 := by rw [hw]; exact (Turned.refl _ _).set (by simp) _
    have H1 : Hid (Held B rg w1 rv pv (setReg s na pn)) := by show Held _ _ _ _ _ _; rw [hw]; exact HHW.out.setR hrg na hna pn
    have K1 : Hid (Kp B rg w w1) := KW.out.trans (T1.kp (by omega) (by simp))
    obtain ⟨c0', c1', c2', c3', fN', y0', y1', y2', y3', fY', _⟩ := MW.out.turned T1 (by simp; omega) (by simp; omega)
    clear hw T1 c0 c1 c2 c3 fN y0 y1 y2 y3 fY
    cases hk : numOk pn with
    | true =>
      have EC : Hid ((setReg s na pn).code = 0) := by show _ = _; simp [setReg, hk, HC.out]
      go_wp2
      refine bodyPost_ret (v := .agg #[.slice ar s.reads.length cr, .slice ap s.puts.length cp, .int .i64 v, .int .i64 0]) (by simp [results, Try.results129, go_sem, y0', y1', y2', y3']) rfl ⟨rv, pv, by rw [HRV.out, HPV.out, ES.out, EC.out], ?_⟩
      rw [ES.out]
      refine TAIL.out w1 _ rv pv _ H1.out K1.out NR.out NP.out ?_
      repeat (first | exact Turned.refl _ _ | refine Turned.set ?_ (by simp) _)
    | false =>
      have EC : Hid ((setReg s na pn).code = 2) := by show _ = _; simp [setReg, hk]
      go_wp2
      refine bodyPost_ret (v := .agg #[.slice ar s.reads.length cr, .slice ap s.puts.length cp, .int .i64 v, .int .i64 2]) (by simp [results, Try.results129, go_sem, y0', y1', y2', y3']) rfl ⟨rv, pv, by rw [HRV.out, HPV.out, ES.out, EC.out], ?_⟩
      rw [ES.out]
      refine TAIL.out w1 _ rv pv _ H1.out K1.out NR.out NP.out ?_
      repeat (first | exact Turned.refl _ _ | refine Turned.set ?_ (by simp) _)
  · -- the end
    have ok := HOK.out
    rw [insOk_7] at ok
    simp only [Bool.and_eq_true, beq_iff_eq] at ok
    obtain ⟨⟨rfl, rfl⟩, rfl⟩ := ok
    have rga := HHW.out.regs.2 0 (by rw [HHW.out.four]; omega)
    rw [Nat.zero_add] at rga
    have EN : Hid (numOk (s.regs.getD 0 0) = true) := HN.out 0 (by omega)
    generalize s.regs.getD 0 0 = x at rga EN
    have rn : ¬ rg = w.heap.size := by omega
    have rn' : ¬ w.heap.size = rg := by omega
    have ES : Hid (stepR bs s (7, 0, 0, 0) = { s with code := 1 }) := by show _ = _; simp [stepR]
    go_enter Try.func129, Try.ntmps129
    go_upto_region 1 with fail
    rw [← HW.out]
    go_wp2_with fail
    refine (l1Num x _).mono ?_
    rintro e w1 ⟨rfl, hw⟩
    rw [hw, EN.out]
    clear hw
    go_wp2
    refine bodyPost_ret (v := .agg #[.slice ar s.reads.length cr, .slice ap s.puts.length cp, .int .i64 v, .int .i64 1]) (by simp [results, Try.results129, go_sem, y0, y1, y2, y3]) rfl ⟨rv, pv, by rw [HRV.out, HPV.out, ES.out], ?_⟩
    rw [ES.out]
    refine TAIL.out W _ rv pv _ (HHW.out.code 1) KW.out NR.out NP.out ?_
    repeat (first | exact Turned.refl _ _ | refine Turned.set ?_ (by simp) _)
  · -- a sum
    have ok := HOK.out
    rw [insOk_4] at ok
    simp only [Bool.and_eq_true] at ok
    obtain ⟨na, hna, rfl⟩ := regOk_nat ok.1.1
    obtain ⟨nb, hnb, rfl⟩ := regOk_nat ok.1.2
    clear ok
    have hai : (na : Int) < 4 := by omega
    have hbi : (nb : Int) < 4 := by omega
    have rga := HHW.out.regs.2 na (by rw [HHW.out.four]; exact hna)
    have rgb := HHW.out.regs.2 nb (by rw [HHW.out.four]; exact hnb)
    rw [Nat.zero_add] at rga rgb
    have fa := HHW.out.free na
    have ba := HN.out na hna
    have bb := HN.out nb hnb
    have ES : Hid (stepR bs s (4, (na : Int), (nb : Int), pn) = setReg s na (s.regs.getD na 0 + s.regs.getD nb 0)) := by show _ = _; simp [stepR]
    generalize s.regs.getD na 0 = x at rga ba ES
    generalize s.regs.getD nb 0 = y at rgb bb ES
    simp only [numOk, Bool.and_eq_true, decide_eq_true_eq] at ba bb
    obtain ⟨ba0, ba1⟩ := ba
    obtain ⟨bb0, bb1⟩ := bb
    have wr : IntKind.i64.wrap (x + y) = x + y := by rw [IntKind.wrap_i64]; omega
    have rn : ¬ rg = w.heap.size := by omega
    have rn1 : ¬ rg = w.heap.size + 1 := by omega
    have rn' : ¬ w.heap.size + 1 = rg := by omega
    go_enter Try.func129, Try.ntmps129
    go_upto_region 1 with fail
    rw [← HW.out]
    go_upto_region 11 with fail
    refine region_still_tail 15 (by kernel_rfl) (by kernel_rfl) ?_
    simp only [List.take_succ_cons, List.take_zero, List.drop_succ_cons, List.drop_zero]
    iterate 15 still_step
    refine wpStill_nil ?_
    go_wp2_with fail
    refine (l1Num (x + y) _).mono ?_
    rintro e w1 ⟨rfl, hw⟩
    have T1 : Turned [rg] W w1 := by rw [hw]; exact (Turned.refl _ _).drew.set (by simp) _
    have H1 : Hid (Held B rg w1 rv pv (setReg s na (x + y))) := by show Held _ _ _ _ _ _; rw [hw]; exact (HHW.out.turned (L := []) (Turned.refl _ _).drew (by simp) (by simp) (by simp)).setR hrg na hna _
    have K1 : Hid (Kp B rg w w1) := KW.out.trans (T1.kp (by omega) (by simp))
    obtain ⟨c0', c1', c2', c3', fN', y0', y1', y2', y3', fY', _⟩ := MW.out.turned T1 (by simp; omega) (by simp; omega)
    clear hw T1 c0 c1 c2 c3 fN y0 y1 y2 y3 fY
    cases hk : numOk (x + y) with
    | true =>
      have EC : Hid ((setReg s na (x + y)).code = 0) := by show _ = _; simp [setReg, hk, HC.out]
      go_wp2
      refine bodyPost_ret (v := .agg #[.slice ar s.reads.length cr, .slice ap s.puts.length cp, .int .i64 v, .int .i64 0]) (by simp [results, Try.results129, go_sem, y0', y1', y2', y3']) rfl ⟨rv, pv, by rw [HRV.out, HPV.out, ES.out, EC.out], ?_⟩
      rw [ES.out]
      refine TAIL.out w1 _ rv pv _ H1.out K1.out NR.out NP.out ?_
      repeat (first | exact Turned.refl _ _ | refine Turned.set ?_ (by simp) _)
    | false =>
      have EC : Hid ((setReg s na (x + y)).code = 2) := by show _ = _; simp [setReg, hk]
      go_wp2
      refine bodyPost_ret (v := .agg #[.slice ar s.reads.length cr, .slice ap s.puts.length cp, .int .i64 v, .int .i64 2]) (by simp [results, Try.results129, go_sem, y0', y1', y2', y3']) rfl ⟨rv, pv, by rw [HRV.out, HPV.out, ES.out, EC.out], ?_⟩
      rw [ES.out]
      refine TAIL.out w1 _ rv pv _ H1.out K1.out NR.out NP.out ?_
      repeat (first | exact Turned.refl _ _ | refine Turned.set ?_ (by simp) _)
  · -- a difference
    have ok := HOK.out
    rw [insOk_5] at ok
    simp only [Bool.and_eq_true] at ok
    obtain ⟨na, hna, rfl⟩ := regOk_nat ok.1.1
    obtain ⟨nb, hnb, rfl⟩ := regOk_nat ok.1.2
    clear ok
    have hai : (na : Int) < 4 := by omega
    have hbi : (nb : Int) < 4 := by omega
    have rga := HHW.out.regs.2 na (by rw [HHW.out.four]; exact hna)
    have rgb := HHW.out.regs.2 nb (by rw [HHW.out.four]; exact hnb)
    rw [Nat.zero_add] at rga rgb
    have fa := HHW.out.free na
    have ba := HN.out na hna
    have bb := HN.out nb hnb
    have ES : Hid (stepR bs s (5, (na : Int), (nb : Int), pn) = setReg s na (s.regs.getD na 0 - s.regs.getD nb 0)) := by show _ = _; simp [stepR]
    generalize s.regs.getD na 0 = x at rga ba ES
    generalize s.regs.getD nb 0 = y at rgb bb ES
    simp only [numOk, Bool.and_eq_true, decide_eq_true_eq] at ba bb
    obtain ⟨ba0, ba1⟩ := ba
    obtain ⟨bb0, bb1⟩ := bb
    have wr : IntKind.i64.wrap (x - y) = x - y := by rw [IntKind.wrap_i64]; omega
    have rn : ¬ rg = w.heap.size := by omega
    have rn1 : ¬ rg = w.heap.size + 1 := by omega
    have rn' : ¬ w.heap.size + 1 = rg := by omega
    go_enter Try.func129, Try.ntmps129
    go_upto_region 1 with fail
    rw [← HW.out]
    go_upto_region 13 with fail
    refine region_still_tail 15 (by kernel_rfl) (by kernel_rfl) ?_
    simp only [List.take_succ_cons, List.take_zero, List.drop_succ_cons, List.drop_zero]
    iterate 15 still_step
    refine wpStill_nil ?_
    go_wp2_with fail
    refine (l1Num (x - y) _).mono ?_
    rintro e w1 ⟨rfl, hw⟩
    have T1 : Turned [rg] W w1 := by rw [hw]; exact (Turned.refl _ _).drew.set (by simp) _
    have H1 : Hid (Held B rg w1 rv pv (setReg s na (x - y))) := by show Held _ _ _ _ _ _; rw [hw]; exact (HHW.out.turned (L := []) (Turned.refl _ _).drew (by simp) (by simp) (by simp)).setR hrg na hna _
    have K1 : Hid (Kp B rg w w1) := KW.out.trans (T1.kp (by omega) (by simp))
    obtain ⟨c0', c1', c2', c3', fN', y0', y1', y2', y3', fY', _⟩ := MW.out.turned T1 (by simp; omega) (by simp; omega)
    clear hw T1 c0 c1 c2 c3 fN y0 y1 y2 y3 fY
    cases hk : numOk (x - y) with
    | true =>
      have EC : Hid ((setReg s na (x - y)).code = 0) := by show _ = _; simp [setReg, hk, HC.out]
      go_wp2
      refine bodyPost_ret (v := .agg #[.slice ar s.reads.length cr, .slice ap s.puts.length cp, .int .i64 v, .int .i64 0]) (by simp [results, Try.results129, go_sem, y0', y1', y2', y3']) rfl ⟨rv, pv, by rw [HRV.out, HPV.out, ES.out, EC.out], ?_⟩
      rw [ES.out]
      refine TAIL.out w1 _ rv pv _ H1.out K1.out NR.out NP.out ?_
      repeat (first | exact Turned.refl _ _ | refine Turned.set ?_ (by simp) _)
    | false =>
      have EC : Hid ((setReg s na (x - y)).code = 2) := by show _ = _; simp [setReg, hk]
      go_wp2
      refine bodyPost_ret (v := .agg #[.slice ar s.reads.length cr, .slice ap s.puts.length cp, .int .i64 v, .int .i64 2]) (by simp [results, Try.results129, go_sem, y0', y1', y2', y3']) rfl ⟨rv, pv, by rw [HRV.out, HPV.out, ES.out, EC.out], ?_⟩
      rw [ES.out]
      refine TAIL.out w1 _ rv pv _ H1.out K1.out NR.out NP.out ?_
      repeat (first | exact Turned.refl _ _ | refine Turned.set ?_ (by simp) _)
end Go.Proofs.Ytfifiobcmdmefaa.Own
